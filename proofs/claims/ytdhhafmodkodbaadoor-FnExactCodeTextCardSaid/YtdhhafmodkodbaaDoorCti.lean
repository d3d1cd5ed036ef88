/- The program's CodeText. -/
import Derived.Test.YtdhhafmodkodbaaDoorCtx
import Derived.Test.YtdhhafmodkodbaaDoorBld
import Derived.Test.YtdhhafmodkodbaaDoorShelf
namespace Go.Proofs.YtdhhafmodkodbaaDoor
open Go.ChangeShapes Go.WideShapes Go.ChangeAt Go.RowKit
set_option linter.unusedVariables false
theorem gPow : Tryd.prog.globalNamed "internal/strconv.uint64pow10" = some 2 := by kernel_rfl
/-- What CodeText reads of the package-level tables. -/
structure Env (w : World) : Prop where
  forms : Forms w
  names : ∀ k, k < 14 → w.cell? ⟨0, k, none⟩ = some (.string ⟨(opNL.getD k []).toArray⟩)
  pow : Lib.TabIs Tryd.prog w "internal/strconv.uint64pow10" .u64 Lib.pow10Tab
  low : 5 ≤ w.heap.size
theorem Env.next {w w' : World} (h : Env w) (b : Below w.heap.size w w') : Env w' := by
  have l := h.low
  have z := b.size
  exact ⟨h.forms.below b, fun k hk => (b.cell (p := ⟨0, k, none⟩) (by show 0 < w.heap.size; omega)).trans (h.names k hk), var?_below b gPow (by omega) h.pow, by omega⟩
theorem below_gr (w : World) (k : Nat) (os : Array Obj) : Below w.heap.size w (Sort.grow (w.drewN k) os) := by
  refine ⟨rfl, rfl, rfl, by simp [Sort.grow, World.drewN], fun i hi => ?_⟩
  show (w.heap ++ os)[i]? = w.heap[i]?
  exact Array.getElem?_append_left hi
theorem itoa33 (n : Int) (h0 : 0 ≤ n) (h1 : n < 4294967296) (w : World) (hL : Env w) :
    Calls Tryd.prog 18 #[.int .i64 n] w fun e w' => e = .returned (.string ⟨(Lib.itoa n).toArray⟩) ∧ Below w.heap.size w w' :=
  (Tryd.strconv_Itoa n (by omega) (by omega) w hL.pow).mono fun e w' ⟨h1, k, os, h2⟩ => ⟨h1, by rw [h2]; exact below_gr w k os⟩
set_option maxRecDepth 100000 in
set_option maxHeartbeats 8000000 in
theorem code15 (n a cap : Nat) (O D A B C X : Nat → Int) (w : World) (G : Env w) (R : RowI w a n O D A B C X) (hX : Wds X n) (hn : n ≤ 1048576) : Calls Tryd.prog 7 #[.slice (some ⟨a, 0, none⟩) n cap] w fun e w' => e = .returned (.tuple #[.string (ctS O D A B C X n), .bool (goodC O D A B C X n)]) ∧ Below w.heap.size w w' := by
  have h11 := good11 n a cap O D A B C X w G.forms R hX hn
  cases hg : goodC O D A B C X n
  · have HV : Hid (ctS O D A B C X n = ⟨#[]⟩) := by show _ = _; unfold ctS; rw [hg]; rfl
    rw [hg] at h11
    clear hX R hg G
    generalize ctS O D A B C X n = S at HV ⊢
    go_enter Tryd.func7, Tryd.ntmps7
    go_wp2_with (go_at_call 14; refine h11.mono ?_; rintro e w1 ⟨rfl, B1⟩)
    go_ret2
    exact ⟨by rw [HV.out]; rfl, B1⟩
  have HV : Hid (ctS O D A B C X n = ⟨(codeT O D A B C X n).toArray⟩) := by show _ = _; unfold ctS; rw [hg]; rfl
  obtain ⟨h6, _, hb⟩ := goodC_bds hg
  have HBd : Hid (∀ k, k < n → Bds (O k) (D k) (A k) (B k) (C k) (X k)) := hb
  have HR0 : Hid (RowI w a n O D A B C X) := R
  have HG0 : Hid (Env w) := G
  have HX : Hid (Wds X n) := hX
  rw [hg] at h11
  clear hX R hg hb G
  generalize ctS O D A B C X n = S at HV ⊢
  go_enter Tryd.func7, Tryd.ntmps7
  go_wp2_with (go_at_call 14; refine h11.mono ?_; rintro e w1 ⟨rfl, B1⟩)
  have HB1 : Hid (Below w.heap.size w w1) := B1
  have HR : Hid (RowI w1 a n O D A B C X) := HR0.out.next B1
  have HG : Hid (Env w1) := HG0.out.next B1
  clear h11 B1 HR0 HG0
  obtain ⟨q0, hq0⟩ : ∃ q0, w1.heap.size = q0 := ⟨_, rfl⟩
  have HQ0 : Hid (w1.heap.size = q0) := hq0
  have HI0 : Hid (Lib.IsBuilderF 43 5 q0 q0 (Lib.byteCells (codeT O D A B C X 0)) (w1.alloc (.cells #[.pointer none, .slice none 0 0] 43))) := by rw [← hq0]; exact Lib.IsBuilderF.of (Lib.fresh_isBuilder 43 5 w1)
  rw [hq0]
  clear hq0
  go_loopw [15] (fun i wr => ∃ k : Nat, k ≤ n ∧ i = .int .i64 k ∧ Hid (Lib.IsBuilderF 43 5 q0 q0 (Lib.byteCells (codeT O D A B C X k)) wr) ∧ Hid (Below w1.heap.size w1 wr)) (fun i _ => n - (intOf i).toNat)
  case atStart => exact ⟨0, by omega, rfl, HI0, (Below.refl _ _).alloc (Nat.le_refl _) _⟩
  case round =>
    obtain ⟨k, hk, rfl, HU, BK⟩ := hrel
    clear HI0
    have RK := HR.out.next BK.out
    have EK := HG.out.next BK.out
    by_cases hkn : k < n
    · have i1 : (k : Int) < (n : Int) := by omega
      have i0 : (0 : Int) ≤ (k : Int) := by omega
      have c0 := RK.c0 k hkn
      have c1 := RK.c1 k hkn
      have c2 := RK.c2 k hkn
      have c3 := RK.c3 k hkn
      have c4 := RK.c4 k hkn
      have c5 := RK.c5 k hkn
      obtain ⟨ho, hv⟩ := HBd.out k hkn
      have HE : Hid (codeT O D A B C X (k + 1) = codeT O D A B C X k ++ (opN (O k) ++ fldT (O k) (D k) (A k) (B k) (C k) (X k) 5 ++ [10])) := rfl
      have HL : (codeT O D A B C X k).length ≤ 37800 := by have := codeT_len HBd.out k (by omega); omega
      have HFL : Hid (∀ j, j ≤ 5 → (fldT (O k) (D k) (A k) (B k) (C k) (X k) j).length ≤ 11 * j) := fldT_len (HBd.out k hkn)
      have HF0 : Hid (fldT (O k) (D k) (A k) (B k) (C k) (X k) 0 = []) := rfl
      have HFS : Hid (∀ j, fldT (O k) (D k) (A k) (B k) (C k) (X k) (j + 1) = fldT (O k) (D k) (A k) (B k) (C k) (X k) j ++ (if nmd (O k) j then 32 :: Lib.itoa (val (D k) (A k) (B k) (C k) (X k) j) else [])) := fun j => rfl
      have HOl : (opN (O k)).length ≤ 7 := opN_len (O k)
      have H31 : Hid (∀ v, Calls Tryd.prog 16 #[.int .i64 (O k)] v fun e w' => e = .returned (.agg #[.bool (nmd (O k) 0), .bool (nmd (O k) 1), .bool (nmd (O k) 2), .bool (nmd (O k) 3), .bool (nmd (O k) 4)]) ∧ Below v.heap.size v w') := fun v => fields37 (O k) v
      have H32 : Hid (∀ v, Calls Tryd.prog 17 #[.agg #[.int .i64 (O k), .int .i64 (D k), .int .i64 (A k), .int .i64 (B k), .int .i64 (C k), .int .u32 (X k)]] v fun e w' => e = .returned (.agg #[.int .i64 (D k), .int .i64 (A k), .int .i64 (B k), .int .i64 (C k), .int .i64 (X k)]) ∧ Below v.heap.size v w') := fun v => vals44 _ _ _ _ _ _ v (HX.out k hkn).1 (HX.out k hkn).2
      have HIx : Hid (∀ j, j < 5 → ∀ v, (Instr.index 51 (.agg #[.int .i64 (D k), .int .i64 (A k), .int .i64 (B k), .int .i64 (C k), .int .i64 (X k)]) (.int .i64 ((j : Nat) : Int))).run Tryd.prog v = .ok (.int .i64 (val (D k) (A k) (B k) (C k) (X k) j)) v) := fun j hj v => ixiAll (D k) (A k) (B k) (C k) (X k) j hj v
      have H33 : Hid (∀ j, j < 5 → ∀ v, Env v → Calls Tryd.prog 18 #[.int .i64 (val (D k) (A k) (B k) (C k) (X k) j)] v fun e w' => e = .returned (.string ⟨(Lib.itoa (val (D k) (A k) (B k) (C k) (X k) j)).toArray⟩) ∧ Below v.heap.size v w') := fun j hj v g => itoa33 _ (hv j hj).1 (hv j hj).2 v g
      have HIl : Hid (∀ j, j < 5 → (Lib.itoa (val (D k) (A k) (B k) (C k) (X k) j)).length ≤ 10) := fun j hj => itoa_len _ (hv j hj).1 (hv j hj).2
      obtain ⟨o, hoo⟩ : ∃ o : Nat, O k = (o : Int) := ⟨(O k).toNat, by omega⟩
      have o14 : (o : Int) < 14 := by omega
      have o0 : (0 : Int) ≤ (o : Int) := by omega
      have HNM : Hid (∀ v, Env v → v.cell? ⟨0, o, none⟩ = some (.string ⟨(opN (O k)).toArray⟩)) := fun v g => by rw [show opN (O k) = opNL.getD o [] by rw [hoo]; rfl]; exact g.names o (by omega)
      have HNj : Hid (∀ j, j < 5 → #[Value.bool (nmd (O k) 0), .bool (nmd (O k) 1), .bool (nmd (O k) 2), .bool (nmd (O k) 3), .bool (nmd (O k) 4)][j]? = some (.bool (nmd (O k) j))) := fun j hj => by
        rcases (by omega : j = 0 ∨ j = 1 ∨ j = 2 ∨ j = 3 ∨ j = 4) with rfl | rfl | rfl | rfl | rfl <;> rfl
      generalize fldT (O k) (D k) (A k) (B k) (C k) (X k) = FD at HFL HE HF0 HFS
      generalize opN (O k) = NM at HOl HE HNM
      generalize nmd (O k) = nn at H31 HFS HNj
      clear hv ho RK EK
      rw [hoo] at c0 H31 H32
      generalize codeT O D A B C X k = E at HU HL HE
      have HOs : (ByteArray.mk NM.toArray).size = NM.length := by simp [ByteArray.size]
      have LB : Hid (q0 < wr.heap.size) := by
        rcases HU.out with q | q
        · exact q.lt
        · exact q.lt
      have HHq : Hid ((wr.alloc (.cells #[.int .i64 (o : Int), .int .i64 (D k), .int .i64 (A k), .int .i64 (B k), .int .i64 (C k), .int .u32 (X k)] 34)).heap[wr.heap.size]? = some (.cells #[.int .i64 (o : Int), .int .i64 (D k), .int .i64 (A k), .int .i64 (B k), .int .i64 (C k), .int .u32 (X k)] 34 (0, 0))) := heap_nw _ _ _
      have BA : Hid (Below w1.heap.size w1 (wr.alloc (.cells #[.int .i64 (o : Int), .int .i64 (D k), .int .i64 (A k), .int .i64 (B k), .int .i64 (C k), .int .u32 (X k)] 34))) := BK.out.alloc BK.out.size _
      have nm0 := HNM.out _ (HG.out.next BA.out)
      have HC6 : Hid (∀ v : World, v.heap[wr.heap.size]? = some (.cells #[.int .i64 (o : Int), .int .i64 (D k), .int .i64 (A k), .int .i64 (B k), .int .i64 (C k), .int .u32 (X k)] 34 (0, 0)) → v.cell? ⟨wr.heap.size, 0, none⟩ = some (.int .i64 (o : Int)) ∧ v.cell? ⟨wr.heap.size, 1, none⟩ = some (.int .i64 (D k)) ∧ v.cell? ⟨wr.heap.size, 2, none⟩ = some (.int .i64 (A k)) ∧ v.cell? ⟨wr.heap.size, 3, none⟩ = some (.int .i64 (B k)) ∧ v.cell? ⟨wr.heap.size, 4, none⟩ = some (.int .i64 (C k)) ∧ v.cell? ⟨wr.heap.size, 5, none⟩ = some (.int .u32 (X k))) := fun v h => by
        refine ⟨?_, ?_, ?_, ?_, ?_, ?_⟩ <;> (rw [Lib.cell_of_heap h]; rfl)
      have HW : Hid (Calls Tryd.prog 15 #[.pointer (some ⟨q0, 0, none⟩), .string ⟨NM.toArray⟩] (wr.alloc (.cells #[.int .i64 (o : Int), .int .i64 (D k), .int .i64 (A k), .int .i64 (B k), .int .i64 (C k), .int .u32 (X k)] 34)) fun e w' => e = .returned (.tuple #[.int .i64 (ByteArray.mk NM.toArray).size, .nilIface]) ∧ Hid (Lib.IsBuilderF 43 5 q0 q0 (Lib.byteCells (E ++ NM)) w') ∧ Hid (Below w1.heap.size w1 w') ∧ w'.heap[wr.heap.size]? = some (.cells #[.int .i64 (o : Int), .int .i64 (D k), .int .i64 (A k), .int .i64 (B k), .int .i64 (C k), .int .u32 (X k)] 34 (0, 0))) := by
        refine (write_at q0 E ⟨NM.toArray⟩ (wr.alloc (.cells #[.int .i64 (o : Int), .int .i64 (D k), .int .i64 (A k), .int .i64 (B k), .int .i64 (C k), .int .u32 (X k)] 34)) (builder_next HU.out ((Below.refl _ _).alloc (Nat.le_refl _) _)) (by omega) (by have := LB.out; simp; omega)).mono ?_
        rintro e w' ⟨h1, h2, h3, h4⟩
        refine ⟨h1, by show Lib.IsBuilderF _ _ _ _ _ _; simpa using h2, BA.out.trans (by rw [HQ0.out]; exact h3), h4 _ _ HHq.out (by intro z; injection z with z; have := LB.out; omega) (by intro c fz z; injection z with _ z2; exact absurd z2 (by decide))⟩
      have HEL : Hid ((E ++ NM).length ≤ 37807) := by show _ ≤ _; rw [List.length_append]; omega
      have HLB : Hid (q0 < wr.heap.size) := LB.out
      clear HU BA HHq LB
      go_wp2_with (first | (go_at_call 15; refine HW.out.mono ?_; rintro e w2 ⟨rfl, I2, B2, h2⟩; (obtain ⟨d0, d1, d2, d3, d4, d5⟩ := HC6.out _ h2)) | (go_at_call 16; refine (H31.out _).mono ?_; rintro e w3 ⟨rfl, B3⟩; (have h3 := heap_nx h2 B3); (obtain ⟨e0, e1, e2, e3, e4, e5⟩ := HC6.out _ h3); (have ql3 := lt_of_heap h3)) | (go_at_call 17; refine (H32.out _).mono ?_; rintro e w4 ⟨rfl, B4⟩))
      have P4 : Hid (w4.heap[w3.heap.size]? = some (.cells #[.bool (nn 0), .bool (nn 1), .bool (nn 2), .bool (nn 3), .bool (nn 4)] 49 (0, 0))) := heap_nx (heap_nw _ _ _) B4
      have B14 : Hid (Below w1.heap.size w1 w4) := ((B2.out.trans (B3.mono B2.out.size)).alloc (by have := B2.out.size; have := B3.size; omega) _).trans (B4.mono (by have := B2.out.size; have := B3.size; simp; omega))
      have HPq : Hid (q0 ≠ w3.heap.size) := by have := HLB.out; have := ql3; show _ ≠ _; omega
      obtain ⟨M, hM⟩ : ∃ M, E ++ NM = M := ⟨_, rfl⟩
      have HM : Hid (E ++ NM = M) := hM
      rw [hM] at I2 HEL
      have I4 : Hid (Lib.IsBuilderF 43 5 q0 q0 (Lib.byteCells (M ++ FD 0)) w4) := by rw [HF0.out, List.append_nil]; exact builder_next (builder_next (builder_next I2.out B3) ((Below.refl _ _).alloc (Nat.le_refl _) _)) B4
      obtain ⟨p, hp⟩ : ∃ p, w3.heap.size = p := ⟨_, rfl⟩
      rw [hp] at P4 HPq ⊢
      clear hM hp d0 d1 d2 d3 d4 d5 e0 e1 e2 e3 e4 e5 h2 h3 ql3 B2 B3 B4 I2 HW HC6 H31 H32 c0 c1 c2 c3 c4 c5 nm0
      go_loopw [29] (fun i wx => ∃ j : Nat, j ≤ 5 ∧ i = .int .i64 j ∧ Hid (Lib.IsBuilderF 43 5 q0 q0 (Lib.byteCells (M ++ FD j)) wx) ∧ Hid (Below w1.heap.size w1 wx) ∧ Hid (wx.heap[p]? = some (.cells #[.bool (nn 0), .bool (nn 1), .bool (nn 2), .bool (nn 3), .bool (nn 4)] 49 (0, 0)))) (fun i _ => 5 - (intOf i).toNat)
      case atStart => exact ⟨0, by omega, rfl, I4, B14, P4⟩
      case round =>
        obtain ⟨j, hj, rfl, IJ, BJ, PJ⟩ := hrel
        have SZ : Hid (q0 < wr.heap.size) := by
          rcases IJ.out with q | q
          · exact q.lt
          · exact q.lt
        by_cases hj5 : j < 5
        · have j1 : (j : Int) < 5 := by omega
          have j0 : (0 : Int) ≤ (j : Int) := by omega
          have cj : wr.cell? ⟨p, j, none⟩ = some (.bool (nn j)) := (Lib.cell_of_heap PJ.out j).trans (HNj.out j hj5)
          have hix := HIx.out j hj5
          have HFj := HFS.out j
          have HLj := HFL.out j hj
          have h33 := H33.out j hj5
          have il := HIl.out j hj5
          generalize val (D k) (A k) (B k) (C k) (X k) j = V at hix HFj h33 il
          have HML : Hid ((M ++ FD j).length ≤ 37900) := by show _ ≤ _; have := HEL.out; rw [List.length_append]; omega
          cases hN : nn j
          · rw [hN] at cj HFj
            have HN : Hid (FD (j + 1) = FD j) := by show _ = _; rw [HFj]; simp
            clear hN HFj h33
            go_wp2
            go_roundw
            case rel => exact ⟨j + 1, by omega, by go_num, by rw [HN.out]; exact IJ, BJ, PJ⟩
            case measure => simp [intOf]; omega
          · rw [hN] at cj HFj
            have HN : Hid (M ++ FD (j + 1) = M ++ FD j ++ (32 :: Lib.itoa V)) := by show _ = _; rw [HFj]; simp
            have H33' : Hid (Calls Tryd.prog 18 #[.int .i64 V] wr fun e w' => e = .returned (.string ⟨(Lib.itoa V).toArray⟩) ∧ Below wr.heap.size wr w') := h33 wr (HG.out.next BJ.out)
            generalize M ++ FD j = L at IJ HML HN
            generalize Lib.itoa V = I at H33' il HN
            have HW5 : Hid (∀ v : World, Below wr.heap.size wr v → ∀ s : ByteArray, s.data.toList = 32 :: I → Calls Tryd.prog 15 #[.pointer (some ⟨q0, 0, none⟩), .string s] v fun e w' => e = .returned (.tuple #[.int .i64 s.size, .nilIface]) ∧ Hid (Lib.IsBuilderF 43 5 q0 q0 (Lib.byteCells (M ++ FD (j + 1))) w') ∧ Hid (Below w1.heap.size w1 w') ∧ Hid (w'.heap[p]? = some (.cells #[.bool (nn 0), .bool (nn 1), .bool (nn 2), .bool (nn 3), .bool (nn 4)] 49 (0, 0)))) := fun v b s hs => by
              have hsz : s.size = I.length + 1 := by
                have : s.data.toList.length = I.length + 1 := by rw [hs]; rfl
                show s.data.size = _
                rw [← Array.length_toList]
                exact this
              refine (write_at q0 L s v (builder_next IJ.out b) (by have := HML.out; omega) (by have := SZ.out; have := b.size; omega)).mono ?_
              rintro e w' ⟨h1, h2, h3, h4⟩
              have bv := BJ.out.trans (b.mono BJ.out.size)
              refine ⟨h1, by show Lib.IsBuilderF _ _ _ _ _ _; rw [HN.out, ← hs]; exact h2, bv.trans (by rw [HQ0.out]; exact h3), h4 _ _ (heap_nx PJ.out b) (by intro z; injection z with z; have := HPq.out; omega) (by intro c fz z; injection z with _ z2; exact absurd z2 (by decide))⟩
            clear hN HFj h33
            go_wp2_with (first | (go_at_call 18; refine H33'.out.mono ?_; rintro e w5 ⟨rfl, B5⟩) | (go_at_call 15; refine (HW5.out _ B5 _ (by simp)).mono ?_; rintro e w6 ⟨rfl, I6, B6, P6⟩))
            go_roundw
            case rel => exact ⟨j + 1, by omega, by go_num, I6, B6, P6⟩
            case measure => simp [intOf]; omega
        · obtain rfl : j = 5 := by omega
          rw [show ((5 : Nat) : Int) = 5 from rfl]
          have HN : Hid (codeT O D A B C X (k + 1) = M ++ FD 5 ++ [10]) := by show _ = _; rw [HE.out, ← HM.out]; simp
          have HML : Hid ((M ++ FD 5).length ≤ 37900) := by show _ ≤ _; have := HEL.out; have := HFL.out 5 (by omega); rw [List.length_append]; omega
          generalize M ++ FD 5 = L at IJ HML HN
          have HW5 : Hid (Calls Tryd.prog 15 #[.pointer (some ⟨q0, 0, none⟩), .string ⟨#[10]⟩] wr fun e w' => e = .returned (.tuple #[.int .i64 ((ByteArray.mk #[10]).size : Nat), .nilIface]) ∧ Hid (Lib.IsBuilderF 43 5 q0 q0 (Lib.byteCells (codeT O D A B C X (k + 1))) w') ∧ Hid (Below w1.heap.size w1 w')) := by
            refine (write_at q0 L ⟨#[10]⟩ wr IJ.out (by have := HML.out; have : (ByteArray.mk #[10]).size = 1 := rfl; omega) (by have := SZ.out; omega)).mono ?_
            rintro e w' ⟨h1, h2, h3, h4⟩
            exact ⟨h1, by show Lib.IsBuilderF _ _ _ _ _ _; rw [HN.out]; exact h2, BJ.out.trans (by rw [HQ0.out]; exact h3)⟩
          clear HFS HFL H33 HIl HIx HNj
          go_wp2_with (go_at_call 15; refine HW5.out.mono ?_; rintro e w6 ⟨rfl, I6, B6⟩)
          go_roundw
          case rel => exact ⟨k + 1, by omega, by go_num, I6, B6⟩
          case measure => simp [intOf]; omega
    · obtain rfl : k = n := by omega
      have i1 : ¬ (k : Int) < (k : Int) := by omega
      have HS : Hid (Calls Tryd.prog 19 #[.pointer (some ⟨q0, 0, none⟩)] wr fun e w' => e = .returned (.string S) ∧ Below w.heap.size w w') := by
        rw [HV.out]
        refine (Tryd.Builder_String_any_k q0 q0 (codeT O D A B C X k) wr HU.out (by rcases HU.out with q | q; exact Nat.le_of_lt q.lt; exact Nat.le_of_lt q.lt)).mono ?_
        rintro e w' ⟨h1, _, h2, _⟩
        exact ⟨h1, HB1.out.trans ((BK.out.trans (by rw [HQ0.out]; exact h2)).mono HB1.out.size)⟩
      clear HU HV RK EK
      go_wp2_with (go_at_call 19; refine HS.out.mono ?_; rintro e w2 ⟨rfl, B2⟩)
      go_ret2
      exact ⟨rfl, B2⟩
end Go.Proofs.YtdhhafmodkodbaaDoor
