/- Drawn places: some row of whole numbers, not too long, in memory of its own. -/
import Derived.Test.YtfhpjcojccfcoaaCu
import Derived.Test.YtfhpjcojccfcoaaKx
namespace Go.Proofs.Ytfhpjcojccfcoaa
open Go.ChangeShapes Go.WideShapes Go.ChangeAt Go.RowKit
set_option linter.unusedVariables false
theorem amongL {b : Nat} {k : Int} {w : World} (hc : Cur b k w) (hk : k ≤ 900000) (l : List Int) (c : Nat) (m0 : 1 < l.length) (m1 : l.length ≤ 65536) : Calls Try.prog 42 #[.pointer (some ⟨b, 0, none⟩), .slice (some ⟨w.heap.size, 0, none⟩) l.length c] (w.alloc (.cells (l.map (Value.int .i64)).toArray 3)) fun e w' => ∃ x : Int, x ∈ l ∧ e = .returned (.int .i64 x) ∧ Cur b (k + 2) w' ∧ Only b (w.alloc (.cells (l.map (Value.int .i64)).toArray 3)) w' := by
  have hl := hc.lt
  refine (among31 b k (w.alloc (.cells (l.map (Value.int .i64)).toArray 3)) hk (hc.next alloc_b) w.heap.size l.length c (fun i => l.getD i 0) m0 m1 (by omega) (by rw [World.size_alloc]; omega) (fun i hi => ?_)).mono ?_
  · simp [List.getD, hi]
  · rintro e w' ⟨i, hi, rfl, c1, o1⟩
    refine ⟨_, ?_, rfl, c1, o1⟩
    show l.getD i 0 ∈ l
    rw [List.getD_eq_getElem?_getD, List.getElem?_eq_getElem hi]
    exact List.getElem_mem hi
theorem Ri.onlyb {b : Nat} {w w' : World} {v : Value} {L : List Int} (h : Ri (b + 1) w v L) (o : Only b w w') : Ri (b + 1) w' v L := h.grown (r := some b) ⟨o.os, o.tape, o.output, o.size, fun k hk hne => o.block k hk (fun q => hne (by rw [q]))⟩ (Or.inr (fun e => by have := (h.lt b e).1; omega))
theorem Cur.grown {b : Nat} {k : Int} {w w' : World} {r : Option Nat} (h : Cur b k w) (g : w.grownBy w' r) (hr : ∀ q, r = some q → b < q) : Cur b k w' := by
  have hl := h.lt
  obtain ⟨s, n, c, f, p, d, h0, h1, h2, h3, h4, h5, h6, h7⟩ := h
  refine ⟨s, n, c, f, p, d, (g.block b hl (fun e => by have := hr b e.symm; omega)).trans h0, h1, h2, h3, h4, h5, ?_, h7⟩
  rcases h6 with h | ⟨o, off, hs, ho, hc⟩
  · exact Or.inl h
  · exact Or.inr ⟨o, off, hs, ho, fun i hi => (World.cell?_of_block (w := w) (a := ⟨o, off + i, none⟩) (g.block o (by omega) (fun e => by have := hr o e.symm; omega))).trans (hc i hi)⟩
set_option maxRecDepth 100000 in
set_option maxHeartbeats 4000000 in
theorem macc (b : Nat) (k : Int) (w : World) (hc : Cur b k w) (hk : k ≤ 1000) : Calls Try.prog 41 #[.pointer (some ⟨b, 0, none⟩)] w fun e w' => ∃ u L, e = .returned u ∧ Ri (b + 1) w' u L ∧ L.length ≤ 201 ∧ Cur b (k + 2000) w' ∧ Below b w w' := by
  obtain ⟨i3, hi3, hz30, hz31, hz32⟩ := info_parts info3
  have HC := Hid.mk hc
  have hl := hc.lt
  have HLT : Hid (b < w.heap.size) := hl
  have HAM : Hid (∀ w3 k', Cur b k' w3 → k' ≤ 900000 → Calls Try.prog 42 #[.pointer (some ⟨b, 0, none⟩), .slice (some ⟨w3.heap.size, 0, none⟩) 3 3] (w3.alloc (.cells #[.int .i64 1000000, .int .i64 1000001, .int .i64 (-1)] 3)) fun e w' => ∃ x : Int, e = .returned (.int .i64 x) ∧ Cur b (k' + 2) w' ∧ Only b (w3.alloc (.cells #[.int .i64 1000000, .int .i64 1000001, .int .i64 (-1)] 3)) w') := fun w3 k' c h => (amongL c h [1000000, 1000001, -1] 3 (by decide) (by decide)).mono fun e w' ⟨x, _, h1, h2, h3⟩ => ⟨x, h1, h2, h3⟩
  clear hc hl
  go_enter Try.func41, Try.ntmps41
  go_wp2_with (first | (go_at_call 70; (with_reducible show Calls Try.prog 70 #[_, .int .i64 20] w _); refine (pick32 b k 20 w (by omega) HC.out (by decide) (by decide)).mono ?_; rintro e w1 ⟨x1, x10, x11, rfl, c1, o1⟩) | (go_at_call 48; (with_reducible show Calls Try.prog 48 #[_, .int .i64 16] w1 _); refine (one30 b (k + 2) 16 w1 (by omega) c1 (by decide) (by decide)).mono ?_; rintro e w2 ⟨t16, rfl, c2, o2⟩) | (go_at_call 70; (with_reducible show Calls Try.prog 70 #[_, .int .i64 3] w2 _); refine (pick32 b (k + 2 + 2) 3 w2 (by omega) c2 (by decide) (by decide)).mono ?_; rintro e w3 ⟨x3, x30, x31, rfl, c3, o3⟩) | (go_at_call 70; (with_reducible show Calls Try.prog 70 #[_, .int .i64 300] w3 _); refine (pick32 b (k + 2 + 2 + 2) 300 w3 (by omega) c3 (by decide) (by decide)).mono ?_; rintro e w4 ⟨x4, x40, x41, rfl, c4, o4⟩; (have C4 : Hid (Cur b (k + 8) w4) := c4.mono (by omega)); (have B4 : Hid (Below b w w4) := (((((Below.refl b w)).trans ((o1).below (Nat.le_refl _) (by have h1 := ((Below.refl b w)).size; have h2 := HLT.out; omega))).trans ((o2).below (Nat.le_refl _) (by have h1 := (((Below.refl b w)).trans ((o1).below (Nat.le_refl _) (by have h1 := ((Below.refl b w)).size; have h2 := HLT.out; omega))).size; have h2 := HLT.out; omega))).trans ((o3).below (Nat.le_refl _) (by have h1 := ((((Below.refl b w)).trans ((o1).below (Nat.le_refl _) (by have h1 := ((Below.refl b w)).size; have h2 := HLT.out; omega))).trans ((o2).below (Nat.le_refl _) (by have h1 := (((Below.refl b w)).trans ((o1).below (Nat.le_refl _) (by have h1 := ((Below.refl b w)).size; have h2 := HLT.out; omega))).size; have h2 := HLT.out; omega))).size; have h2 := HLT.out; omega))).trans ((o4).below (Nat.le_refl _) (by have h1 := (((((Below.refl b w)).trans ((o1).below (Nat.le_refl _) (by have h1 := ((Below.refl b w)).size; have h2 := HLT.out; omega))).trans ((o2).below (Nat.le_refl _) (by have h1 := (((Below.refl b w)).trans ((o1).below (Nat.le_refl _) (by have h1 := ((Below.refl b w)).size; have h2 := HLT.out; omega))).size; have h2 := HLT.out; omega))).trans ((o3).below (Nat.le_refl _) (by have h1 := ((((Below.refl b w)).trans ((o1).below (Nat.le_refl _) (by have h1 := ((Below.refl b w)).size; have h2 := HLT.out; omega))).trans ((o2).below (Nat.le_refl _) (by have h1 := (((Below.refl b w)).trans ((o1).below (Nat.le_refl _) (by have h1 := ((Below.refl b w)).size; have h2 := HLT.out; omega))).size; have h2 := HLT.out; omega))).size; have h2 := HLT.out; omega))).size; have h2 := HLT.out; omega))); (obtain ⟨j, hj, hj2⟩ : ∃ j : Nat, 199 + x3 = (j : Int) ∧ j ≤ 201 := ⟨(199 + x3).toNat, by omega, by omega⟩); (have HJ : Hid (199 + x3 = (j : Int)) := hj); (have HJ2 : Hid (j ≤ 201) := hj2); clear hj hj2) | (go_at_call 70; (with_reducible show Calls Try.prog 70 #[_, .int .i64 300] w2 _); refine (pick32 b (k + 2 + 2) 300 w2 (by omega) c2 (by decide) (by decide)).mono ?_; rintro e w4 ⟨x4, x40, x41, rfl, c4, o4⟩; (have C4 : Hid (Cur b (k + 8) w4) := c4.mono (by omega)); (have B4 : Hid (Below b w w4) := ((((Below.refl b w)).trans ((o1).below (Nat.le_refl _) (by have h1 := ((Below.refl b w)).size; have h2 := HLT.out; omega))).trans ((o2).below (Nat.le_refl _) (by have h1 := (((Below.refl b w)).trans ((o1).below (Nat.le_refl _) (by have h1 := ((Below.refl b w)).size; have h2 := HLT.out; omega))).size; have h2 := HLT.out; omega))).trans ((o4).below (Nat.le_refl _) (by have h1 := ((((Below.refl b w)).trans ((o1).below (Nat.le_refl _) (by have h1 := ((Below.refl b w)).size; have h2 := HLT.out; omega))).trans ((o2).below (Nat.le_refl _) (by have h1 := (((Below.refl b w)).trans ((o1).below (Nat.le_refl _) (by have h1 := ((Below.refl b w)).size; have h2 := HLT.out; omega))).size; have h2 := HLT.out; omega))).size; have h2 := HLT.out; omega))); (obtain ⟨j, hj, hj2⟩ : ∃ j : Nat, x1 = (j : Int) ∧ j ≤ 201 := ⟨(x1).toNat, by omega, by omega⟩); (have HJ : Hid (x1 = (j : Int)) := hj); (have HJ2 : Hid (j ≤ 201) := hj2); clear hj hj2))
  all_goals
    go_loopw [3, 4, 5] (fun lv nv av wr => ∃ (j : Nat) (L : List Int) (x : Int), nv = .int .i64 (j : Int) ∧ av = .int .i64 x ∧ L.length + j ≤ 201 ∧ Hid (Ri (b + 1) wr lv L) ∧ Hid (Cur b (k + 8 + 8 * (L.length : Int)) wr) ∧ Hid (Below b w wr)) (fun _ nv _ _ => (intOf nv).toNat)
    case atStart => exact ⟨j, [], x4, by rw [HJ.out], rfl, by have := HJ2.out; simp; omega, Ri.nil _ _ (by have := C4.out.lt; omega), C4.out.mono (by simp), B4⟩
    case round =>
      obtain ⟨j, L, x, rfl, rfl, hjl, HR, HCu, HB⟩ := hrel
      cases j with
      | zero =>
        go_wp2
        go_ret
        first | exact ⟨_, L, rfl, HR.out, by omega, HCu.out.mono (by omega), HB.out⟩ | exact ⟨L, HR.out, by omega, HCu.out.mono (by omega), HB.out⟩
      | succ i =>
        have i1 : (0 : Int) < ((i + 1 : Nat) : Int) := by omega
        obtain ⟨K, hK⟩ : ∃ K : Int, k + 8 + 8 * (L.length : Int) = K := ⟨_, rfl⟩
        have HKK : Hid (k + 8 + 8 * (L.length : Int) = K) := hK
        have hK2 : K ≤ 3000 := by omega
        rw [hK] at HCu
        clear hK
        have HLL : Hid (L.length ≤ 201) := by show _ ≤ _; omega
        go_wp2_with (first | (go_at_call 70; (with_reducible show Calls Try.prog 70 #[_, .int .i64 4] wr _); refine (pick32 b K 4 wr (by omega) HCu.out (by decide) (by decide)).mono ?_; rintro e u1 ⟨y1, y10, y11, rfl, d1, p1⟩) | (go_at_call 70; (with_reducible show Calls Try.prog 70 #[_, .int .i64 400] u1 _); refine (pick32 b (K + 2) 400 u1 (by omega) d1 (by decide) (by decide)).mono ?_; rintro e u2 ⟨y2, y20, y21, rfl, d2, p2⟩) | (go_at_call 48; (with_reducible show Calls Try.prog 48 #[_, .int .i64 200] u2 _); refine (one30 b (K + 2 + 2) 200 u2 (by omega) d2 (by decide) (by decide)).mono ?_; rintro e u3 ⟨t200, rfl, d3, p3⟩; (have R3 := ((HR.out.onlyb p1).onlyb p2).onlyb p3); (have B3 : Below b w u3 := (((HB.out).trans ((p1).below (Nat.le_refl _) (by have h1 := (HB.out).size; have h2 := HLT.out; omega))).trans ((p2).below (Nat.le_refl _) (by have h1 := ((HB.out).trans ((p1).below (Nat.le_refl _) (by have h1 := (HB.out).size; have h2 := HLT.out; omega))).size; have h2 := HLT.out; omega))).trans ((p3).below (Nat.le_refl _) (by have h1 := (((HB.out).trans ((p1).below (Nat.le_refl _) (by have h1 := (HB.out).size; have h2 := HLT.out; omega))).trans ((p2).below (Nat.le_refl _) (by have h1 := ((HB.out).trans ((p1).below (Nat.le_refl _) (by have h1 := (HB.out).size; have h2 := HLT.out; omega))).size; have h2 := HLT.out; omega))).size; have h2 := HLT.out; omega))); (have d6 : Cur b (K + 6) u3 := d3.mono (by omega))) | (go_at_call 48; (with_reducible show Calls Try.prog 48 #[_, .int .i64 200] u1 _); refine (one30 b (K + 2) 200 u1 (by omega) d1 (by decide) (by decide)).mono ?_; rintro e u3 ⟨t200, rfl, d3, p3⟩; (have R3 := (HR.out.onlyb p1).onlyb p3); (have B3 : Below b w u3 := ((HB.out).trans ((p1).below (Nat.le_refl _) (by have h1 := (HB.out).size; have h2 := HLT.out; omega))).trans ((p3).below (Nat.le_refl _) (by have h1 := ((HB.out).trans ((p1).below (Nat.le_refl _) (by have h1 := (HB.out).size; have h2 := HLT.out; omega))).size; have h2 := HLT.out; omega))); (have d6 : Cur b (K + 6) u3 := d3.mono (by omega))) | (go_at_call 42; refine (HAM.out u3 (K + 6) d6 (by omega)).mono ?_; rintro e u4 ⟨y4, rfl, d4, p4⟩; (have R4 := (R3.alloc _).onlyb p4); (have B4x : Below b w u4 := (B3.alloc (by have h1 := B3.size; have h2 := HLT.out; omega) _).trans (p4.below (Nat.le_refl _) (by rw [World.size_alloc]; have h1 := B3.size; have h2 := HLT.out; omega)))) | (at_builtin; (have RA := R4); (have cA : Cur b (K + 8) u4 := d4.mono (by omega)); (have BA := B4x); refine wpList_append_ri _ _ Try.underlying23 hi3 hz30 hz31 hz32 rfl rfl rfl rfl (RA.alloc _) (ARow.one u4 _) (by have := HLL.out; simp only [List.length_cons, List.length_nil]; omega) ?_) | (at_builtin; (have RA := R3); (have cA : Cur b (K + 8) u3 := d6.mono (by omega)); (have BA := B3); refine wpList_append_ri _ _ Try.underlying23 hi3 hz30 hz31 hz32 rfl rfl rfl rfl (RA.alloc _) (ARow.one u3 _) (by have := HLL.out; simp only [List.length_cons, List.length_nil]; omega) ?_))
        all_goals
          intro v5 w5 R5 G5 A5
          have cN := (cA.next alloc_b).grown G5 (fun q e => by have := (RA.lt q e).1; omega)
          have BN : Below b w w5 := (BA.alloc (by have h1 := BA.size; have h2 := HLT.out; omega) _).trans ⟨G5.os, G5.tape, G5.output, G5.size, fun q hq => G5.block q (by have h1 := BA.size; have h2 := HLT.out; rw [World.size_alloc]; omega) (fun e => by have := (RA.lt q e.symm).1; omega)⟩
          clear G5 A5
          go_wp2
          go_roundw
          case rel => exact ⟨i, _, _, by first | go_num | (congr 1; omega) | (simp; omega), rfl, by simp only [List.length_append, List.length_cons, List.length_nil]; omega, R5, cN.mono (by have := HKK.out; simp only [List.length_append, List.length_cons, List.length_nil]; omega), BN⟩
          case measure => simp [intOf]
end Go.Proofs.Ytfhpjcojccfcoaa
