/- The model's TokensText: the same texts, in a row of bytes. -/
import Derived.Test.YtpildklndfgojaaDoorTokI
import Derived.Lib.FrozenHead2
import Derived.Lib.BufferRead
namespace Go.Proofs.YtpildklndfgojaaDoor.Tk
open Go.ChangeShapes Go.WideShapes Go.ChangeAt Go.RowKit
set_option linter.unusedVariables false
theorem row_next {B : Nat} {v : Value} {n : Nat} {xs : List Value} {w w' : World} (h : w.ownsRowF B 5 1 v n xs) (hb : Below w.heap.size w w') : w'.ownsRowF B 5 1 v n xs :=
  h.kept (row := none) ⟨hb.os, hb.tape, hb.output, hb.size, fun k hk _ => hb.block k hk⟩ (by cases hv : v.ownBlock <;> simp)
theorem text_of_row {B : Nat} {v : Value} {w : World} {l : List UInt8} (h : w.ownsRowF B 5 1 v l.length (Lib.byteCells l)) : (convert 22 9 v).run Tryd.prog w = .ok (.string ⟨l.toArray⟩) w := by
  rcases h.2 with ⟨hv, h0⟩ | ⟨g, cap, cur, fz, hv, hB, hg, hf, hn, hc, hs, ht⟩
  · obtain rfl : l = [] := by cases l <;> simp_all
    subst hv
    exact Lib.run_convert_nil_bytes w 22 9 5 0 Tryd.underlying22 Tryd.underlying5 Tryd.underlying9
  · subst hv
    exact run_convert_bytes_back w 22 9 5 ⟨g, 0, none⟩ cap l Tryd.underlying22 Tryd.underlying5 Tryd.underlying9 (Lib.bytes_of_row hg (by simpa using ht))
set_option maxHeartbeats 4000000 in
set_option maxRecDepth 100000 in
theorem text24 {w : World} {o n : Nat} {K J : Nat → Int} {T : Nat → ByteArray} (R : Row3 w o n K T J) (hn : n ≤ 400) (hT : ∀ i, i < n → (T i).size ≤ 1048576) :
    Calls Tryd.prog 24 #[.slice (some ⟨o, 0, none⟩) n n] w fun r w' => r = .returned (.tuple #[.string (outS K T n), .bool (allG K T n)]) ∧ Below w.heap.size w w' := by
  obtain ⟨ib, hi, hz0, hz1, hz2⟩ := info_parts info5
  have HI : Hid (Tryd.prog.info? 5 = some ib ∧ ib.zero = some (.int .u8 0) ∧ ib.size = 1 ∧ ib.bytes = 1) := ⟨hi, hz0, hz1, hz2⟩
  clear hi hz0 hz1 hz2
  have hn' : ¬ (400 : Int) < (n : Int) := by omega
  have HT : Hid (∀ i, i < n → (T i).size ≤ 1048576) := hT
  clear hT
  go_enter Tryd.func24, Tryd.ntmps24
  go_wp2
  go_loopw [4, 12] (fun v i wr => ∃ k : Nat, k ≤ n ∧ i = .int .i64 k ∧ Hid (allG K T k = true) ∧ Hid (wr.ownsRowF w.heap.size 5 1 v (joinT T k).length (Lib.byteCells (joinT T k))) ∧ Below w.heap.size w wr) (fun _ i _ => n - (intOf i).toNat)
  case atStart => exact ⟨0, by omega, rfl, rfl, World.ownsRowF_nil _ _ _ _, Below.refl _ _⟩
  case round =>
    obtain ⟨k, hk, rfl, HA, HB, BK⟩ := hrel
    have zr := BK.size
    by_cases hkn : k < n
    · have RR := R.next BK
      have a0 := RR.k k hkn
      have a1 := RR.t k hkn
      have a2 := RR.j k hkn
      have i0 : (0 : Int) ≤ (k : Int) := by omega
      have i1 : (k : Int) < (n : Int) := by omega
      obtain ⟨G, hG⟩ : ∃ G, goodK (K k) (T k) = G := ⟨_, rfl⟩
      have HG : Hid (goodK (K k) (T k) = G) := hG
      have H72 : Hid (∀ wx : World, Below wr.heap.size wr wx → wx.heap[wr.heap.size]? = some (.cells #[.int .i64 (K k), .string (T k), .int .i64 (J k)] 88 (0, 0)) → Calls Tryd.prog 72 #[.agg #[.int .i64 (K k), .string (T k), .int .i64 (J k)]] wx fun r w' => r = .returned (.bool G) ∧ Below wr.heap.size wr w' ∧ w'.heap[wr.heap.size]? = some (.cells #[.int .i64 (K k), .string (T k), .int .i64 (J k)] 88 (0, 0)) ∧ w'.cell? ⟨wr.heap.size, 1, none⟩ = some (.string (T k)) ∧ wr.heap.size < w'.heap.size) := fun wx b h => by
        have lt : wr.heap.size < wx.heap.size := by
          rcases Nat.lt_or_ge wr.heap.size wx.heap.size with h' | h'
          · exact h'
          · simp [Array.getElem?_eq_none h'] at h
        rw [← hG]
        refine (good72 (K k) (J k) (T k) wx (HT.out k hkn)).mono ?_
        rintro e w' ⟨h1, h2⟩
        have q := (h2.block _ lt).trans h
        exact ⟨h1, step_b b h2, q, by rw [Lib.cell_of_heap q]; rfl, by have := h2.size; omega⟩
      have jl := join_len T n HT.out k hk
      have tk := HT.out k hkn
      have HJ : Hid ((joinT T k).length ≤ k * 1048577 ∧ (T k).size ≤ 1048576) := ⟨jl, tk⟩
      clear hG R RR jl tk
      cases G
      · have af := allG_false K T k HG.out n hkn
        have ho : outS K T n = ⟨#[]⟩ := by rw [outS, if_neg (by rw [af]; decide)]
        have HO : Hid (allG K T n = false ∧ outS K T n = ⟨#[]⟩) := ⟨af, ho⟩
        clear af ho
        go_wp2_with (go_at_call 72; refine ((Hid.out H72) _ ((Below.refl _ _).alloc (Nat.le_refl _) _) (heap_alloc_new _ _)).mono ?_; rintro e w2 ⟨rfl, B2, h2, c2, l2⟩)
        go_ret2
        exact ⟨by rw [HO.out.1, HO.out.2]; rfl, BK.trans (B2.mono zr)⟩
      · have HN : Hid (allG K T (k + 1) = true) := by show allG K T (k + 1) = true; rw [allG, HA.out, HG.out]; rfl
        by_cases k0 : k = 0
        · have k1 : ¬ (0 : Int) < (k : Int) := by omega
          have e1 : joinT T (k + 1) = joinT T k ++ (T k).data.toList := by rw [joinT, if_pos k0]; simp
          have HE : Hid (joinT T (k + 1) = joinT T k ++ (T k).data.toList) := e1
          clear k0 e1
          go_wp2_with (go_at_call 72; refine ((Hid.out H72) _ ((Below.refl _ _).alloc (Nat.le_refl _) _) (heap_alloc_new _ _)).mono ?_)
          rintro e w2 rfl B2 h2 c2 l2
          have O2 := row_next HB.out B2
          have Bw := BK.trans (B2.mono zr)
          have zw := Bw.size
          go_wp2_with (at_builtin; refine Lib.wpList_append_own_stringF _ rfl _ _ 22 9 rfl w.heap.size 5 ib Tryd.underlying22 Tryd.underlying9 HI.out.1 HI.out.2.1 HI.out.2.2.1 HI.out.2.2.2 _ _ _ rfl O2 (T k) rfl ?c3 ?c4 ?c5 ?_)
          case c3 => have := HJ.out; unfold maxLen; omega
          case c4 => have := HJ.out; omega
          case c5 => omega
          intro v' w3 O3 g3 _
          have B3 : Below w.heap.size w w3 := Bw.grown g3 zw (fun q hq => (O2.lt q hq).1)
          have P3 : Hid (w3.ownsRowF w.heap.size 5 1 v' (joinT T (k + 1)).length (Lib.byteCells (joinT T (k + 1)))) := by
            show w3.ownsRowF w.heap.size 5 1 v' (joinT T (k + 1)).length (Lib.byteCells (joinT T (k + 1)))
            rw [HE.out, List.length_append, Lib.byteCells_append, ← Lib.strCells_eq]
            simpa using O3
          clear O3 g3 O2
          go_wp2
          exact ⟨⟨k + 1, by omega, by go_num, HN, P3, B3⟩, by simp [intOf]; omega⟩
        · have k1 : (0 : Int) < (k : Int) := by omega
          have e1 : joinT T (k + 1) = (joinT T k ++ [32]) ++ (T k).data.toList := by rw [joinT, if_neg k0]
          have HE : Hid (joinT T (k + 1) = (joinT T k ++ [32]) ++ (T k).data.toList) := e1
          clear k0 e1
          go_wp2_with (go_at_call 72; refine ((Hid.out H72) _ ((Below.refl _ _).alloc (Nat.le_refl _) _) (heap_alloc_new _ _)).mono ?_)
          rintro e w2 ⟨rfl, B2, h2, c2, l2⟩
          have O2 := row_next HB.out B2
          have Bw := BK.trans (B2.mono zr)
          have zw := Bw.size
          go_wp2_with (at_builtin; refine wpList_append_ownF _ rfl _ _ 22 rfl w.heap.size 5 ib (.int .u8 0) 1 1 Tryd.underlying22 HI.out.1 HI.out.2.1 HI.out.2.2.1 HI.out.2.2.2 rfl (by decide) _ _ _ rfl (O2.alloc _) ⟨w2.heap.size, 0, none⟩ 1 1 [.int .u8 32] rfl rfl ?c1 ?c2 ?c3 ?c4 ?c5 ?_)
          case c1 =>
            intro j u hj
            match j, hj with
            | 0, hj => simp at hj; subst hj; simp [Addr.add]
          case c2 => intro u hu; simp at hu; subst hu; rfl
          case c3 => have := HJ.out; unfold maxLen; omega
          case c4 => have := HJ.out; omega
          case c5 => simp; omega
          intro v3 w3 O3 g3 _
          have lt2 : wr.heap.size < (w2.alloc (.cells #[.int .u8 32] 5)).heap.size := by simp; omega
          have ne2 : some wr.heap.size ≠ (u4 : Value).ownBlock := by
            intro z
            have := (HB.out.lt _ z.symm).2
            omega
          have h3 : w3.heap[wr.heap.size]? = some (.cells #[.int .i64 (K k), .string (T k), .int .i64 (J k)] 88 (0, 0)) := by
            rw [g3.block _ lt2 ne2, Lib.alloc_old w2 _ _ l2]
            exact h2
          have c3 : w3.cell? ⟨wr.heap.size, 1, none⟩ = some (.string (T k)) := by rw [Lib.cell_of_heap h3]; rfl
          have B3 : Below w.heap.size w w3 := (Bw.alloc zw _).grown g3 (by simp; omega) (fun q hq => (O2.lt q hq).1)
          have z3 := B3.size
          clear O2 g3 lt2 ne2
          go_wp2_with (at_builtin; refine Lib.wpList_append_own_stringF _ rfl _ _ 22 9 rfl w.heap.size 5 ib Tryd.underlying22 Tryd.underlying9 HI.out.1 HI.out.2.1 HI.out.2.2.1 HI.out.2.2.2 _ _ _ rfl O3 (T k) rfl ?d3 ?d4 ?d5 ?_)
          case d3 => have := HJ.out; unfold maxLen; omega
          case d4 => have := HJ.out; omega
          case d5 => omega
          intro v' w4 O4 g4 _
          have B4 : Below w.heap.size w w4 := B3.grown g4 z3 (fun q hq => (O3.lt q hq).1)
          have P4 : Hid (w4.ownsRowF w.heap.size 5 1 v' (joinT T (k + 1)).length (Lib.byteCells (joinT T (k + 1)))) := by
            show w4.ownsRowF w.heap.size 5 1 v' (joinT T (k + 1)).length (Lib.byteCells (joinT T (k + 1)))
            have b32 : Lib.byteCells [32] = [.int .u8 32] := rfl
            rw [HE.out, List.length_append, List.length_append, Lib.byteCells_append, Lib.byteCells_append, ← Lib.strCells_eq, b32]
            simpa using O4
          clear O4 g4 O3
          go_wp2
          exact ⟨⟨k + 1, by omega, by go_num, HN, P4, B4⟩, by simp [intOf]; omega⟩
    · have hkk : k = n := by omega
      subst hkk
      have HO : Hid (allG K T k = true ∧ outS K T k = ⟨(joinT T k).toArray⟩) := ⟨HA.out, by rw [outS, if_pos HA.out]⟩
      have hc := text_of_row HB.out
      clear HA
      go_wp2
      go_ret2
      exact ⟨by rw [HO.out.1, HO.out.2]; rfl, BK⟩
set_option maxRecDepth 100000 in
theorem long24 (a : Option Addr) (n c : Nat) (w : World) (hn : 400 < n) (hn2 : n ≤ 1048576) :
    Calls Tryd.prog 24 #[.slice a n c] w fun r w' => r = .returned (.tuple #[.string ⟨#[]⟩, .bool false]) ∧ Below w.heap.size w w' := by
  have hn' : (400 : Int) < (n : Int) := by omega
  go_enter Tryd.func24, Tryd.ntmps24
  go_wp2
  go_ret2
  exact ⟨rfl, Below.refl _ _⟩
end Go.Proofs.YtpildklndfgojaaDoor.Tk
