/- The model's CodeText. -/
import Derived.Test.YtdhhafmodkodbaaDoorCtx
import Derived.Laws.AppendOwn
namespace Go.Proofs.YtdhhafmodkodbaaDoor
open Go.ChangeShapes Go.WideShapes Go.ChangeAt Go.RowKit
set_option linter.unusedVariables false
set_option maxRecDepth 100000 in
set_option maxHeartbeats 8000000 in
theorem code13 (n a cap : Nat) (O D A B C X : Nat → Int) (w : World) (R : RowI w a n O D A B C X) (hX : Wds X n) (hn : n ≤ 1048576) : Calls Tryd.prog 5 #[.slice (some ⟨a, 0, none⟩) n cap] w fun e w' => e = .returned (.tuple #[.string (ctS O D A B C X n), .bool (goodC O D A B C X n)]) ∧ Below w.heap.size w w' := by
  obtain ⟨i5, hi5, hz50, hz51, hz52⟩ := info_parts info5
  have h9 := good9 n a cap O D A B C X w R hX hn
  cases hg : goodC O D A B C X n
  · have HV : Hid (ctS O D A B C X n = ⟨#[]⟩) := by show _ = _; unfold ctS; rw [hg]; rfl
    rw [hg] at h9
    clear hX R hg
    generalize ctS O D A B C X n = S at HV ⊢
    go_enter Tryd.func5, Tryd.ntmps5
    go_wp2_with (go_at_call 9; refine h9.mono ?_; rintro e w1 ⟨rfl, B1⟩)
    go_ret2
    exact ⟨by rw [HV.out]; rfl, B1⟩
  have HV : Hid (ctS O D A B C X n = ⟨(codeT O D A B C X n).toArray⟩) := by show _ = _; unfold ctS; rw [hg]; rfl
  obtain ⟨h6, _, hb⟩ := goodC_bds hg
  have HR : Hid (RowI w a n O D A B C X) := R
  have HBd : Hid (∀ k, k < n → Bds (O k) (D k) (A k) (B k) (C k) (X k)) := hb
  rw [hg] at h9
  clear hX R hg hb
  generalize ctS O D A B C X n = S at HV ⊢
  go_enter Tryd.func5, Tryd.ntmps5
  go_wp2_with (go_at_call 9; refine h9.mono ?_; rintro e w1 ⟨rfl, B1⟩)
  clear h9
  go_loopw [4, 15] (fun vv i wr => ∃ (k : Nat) (u : Value), k ≤ n ∧ i = .int .i64 k ∧ u = vv ∧ Hid (Rt w.heap.size wr u (codeT O D A B C X k)) ∧ Below w.heap.size w wr) (fun _ i _ => n - (intOf i).toNat)
  case atStart => exact ⟨0, _, by omega, rfl, rfl, ⟨World.ownsRow_nil _ _ _ _, B1.size⟩, B1⟩
  case round =>
    obtain ⟨k, u, hk, rfl, rfl, HU, BK⟩ := hrel
    clear B1
    have RK := HR.out.next BK
    by_cases hkn : k < n
    · have i1 : (k : Int) < (n : Int) := by omega
      have i0 : (0 : Int) ≤ (k : Int) := by omega
      have c0 := RK.c0 k hkn
      have c1 := RK.c1 k hkn
      have c2 := RK.c2 k hkn
      have c3 := RK.c3 k hkn
      have c4 := RK.c4 k hkn
      have c5 := RK.c5 k hkn
      have bd := HBd.out k hkn
      obtain ⟨ho, hv⟩ := bd
      have X0 : 0 ≤ X k := (hv 4 (by omega)).1
      have X1 : X k < 4294967296 := (hv 4 (by omega)).2
      have HVv : Hid (∀ j, j < 5 → 0 ≤ val (D k) (A k) (B k) (C k) (X k) j ∧ val (D k) (A k) (B k) (C k) (X k) j < 4294967296) := hv
      have HF : Hid (∀ v, Calls Tryd.prog 11 #[.int .i64 (O k)] v fun e w' => e = .returned (.int .i64 (fN (O k))) ∧ w' = v) := fun v => fields47 (O k) v ho
      have H26 : Hid (∀ v, Calls Tryd.prog 10 #[.int .i64 (O k)] v fun e w' => e = .returned (.string ⟨(opN (O k)).toArray⟩) ∧ Below v.heap.size v w') := fun v => name26 (O k) v ho
      have HT : Hid (∀ j, j < 5 → (bits .and .i64 (fN (O k) / 2 ^ (4 - j)) 1 == 1) = nmd (O k) j) := fN_bit5 (O k) ho
      have H28 : Hid (∀ j, j < 5 → ∀ v, Calls Tryd.prog 12 #[.int .i64 (val (D k) (A k) (B k) (C k) (X k) j)] v fun e w' => e = .returned (.string ⟨(Lib.itoa (val (D k) (A k) (B k) (C k) (X k) j)).toArray⟩) ∧ Below v.heap.size v w') := fun j hj v => num28 _ v (hv j hj).1 (hv j hj).2
      have HIl : Hid (∀ j, j < 5 → (Lib.itoa (val (D k) (A k) (B k) (C k) (X k) j)).length ≤ 10) := fun j hj => itoa_len _ (hv j hj).1 (hv j hj).2
      have HL : (codeT O D A B C X k).length ≤ 37800 := by have := codeT_len HBd.out k (by omega); omega
      have HFL : Hid (∀ j, j ≤ 5 → (fldT (O k) (D k) (A k) (B k) (C k) (X k) j).length ≤ 11 * j) := fldT_len (HBd.out k hkn)
      have HE : Hid (codeT O D A B C X (k + 1) = codeT O D A B C X k ++ (opN (O k) ++ fldT (O k) (D k) (A k) (B k) (C k) (X k) 5 ++ [10])) := rfl
      have HF0 : Hid (fldT (O k) (D k) (A k) (B k) (C k) (X k) 0 = []) := rfl
      have HFS : Hid (∀ j, fldT (O k) (D k) (A k) (B k) (C k) (X k) (j + 1) = fldT (O k) (D k) (A k) (B k) (C k) (X k) j ++ (if nmd (O k) j then 32 :: Lib.itoa (val (D k) (A k) (B k) (C k) (X k) j) else [])) := fun j => rfl
      have HOl : (opN (O k)).length ≤ 7 := opN_len (O k)
      generalize fldT (O k) (D k) (A k) (B k) (C k) (X k) = FD at HFL HE HF0 HFS
      generalize codeT O D A B C X k = E at HU HL HE
      obtain ⟨F, hF⟩ : ∃ F, fN (O k) = F := ⟨_, rfl⟩
      have HFF : Hid (fN (O k) = F) := hF
      rw [hF] at HF HT
      have HHq : Hid ((wr.alloc (.cells #[.int .i64 (O k), .int .i64 (D k), .int .i64 (A k), .int .i64 (B k), .int .i64 (C k), .int .u32 (X k)] 34)).heap[wr.heap.size]? = some (.cells #[.int .i64 (O k), .int .i64 (D k), .int .i64 (A k), .int .i64 (B k), .int .i64 (C k), .int .u32 (X k)] 34 (0, 0))) := heap_nw _ _ _
      have BA : Hid (Below w.heap.size w (wr.alloc (.cells #[.int .i64 (O k), .int .i64 (D k), .int .i64 (A k), .int .i64 (B k), .int .i64 (C k), .int .u32 (X k)] 34))) := BK.alloc BK.size _
      have HA : Hid (Rt w.heap.size (wr.alloc (.cells #[.int .i64 (O k), .int .i64 (D k), .int .i64 (A k), .int .i64 (B k), .int .i64 (C k), .int .u32 (X k)] 34)) u E) := HU.out.next ((Below.refl _ _).alloc (Nat.le_refl _) _)
      have NE : Hid (some wr.heap.size ≠ u.ownBlock) := fun e => by have := (HU.out.lt _ e.symm).2; omega
      generalize opN (O k) = NM at H26 HOl HE
      have HOs : (ByteArray.mk NM.toArray).size = NM.length := by simp [ByteArray.size]
      clear hF hv ho RK HU BK
      go_wp2_with (first | (go_at_call 10; refine (H26.out _).mono ?_; rintro e w2 ⟨rfl, B2⟩; (have R2 := HA.out.next B2)) | (at_builtin; refine Lib.wpList_append_own_string _ rfl _ _ 31 9 rfl w.heap.size 5 i5 Tryd.underlying31 Tryd.underlying9 hi5 hz50 hz51 hz52 _ _ _ rfl R2.1 ⟨NM.toArray⟩ rfl ?s3 ?s4 ?s5 ?_))
      case s3 => have := (show E.length + (ByteArray.mk NM.toArray).size ≤ 37807 by omega); unfold maxLen; omega
      case s4 => have := (show E.length + (ByteArray.mk NM.toArray).size ≤ 37807 by omega); omega
      case s5 => exact R2.2
      intro v3 w3 hown hgrow _
      have R3 : Hid (Rt w.heap.size w3 v3 (E ++ NM)) := by have := R2.str ⟨NM.toArray⟩ hown hgrow; show Rt _ _ _ _; simpa using this
      have B3 : Hid (Below w.heap.size w w3) := (BA.out.trans (B2.mono BA.out.size)).grown hgrow (by have := BA.out.size; have := B2.size; omega) (fun q hq => (R2.lt q hq).1)
      have h3 : w3.heap[wr.heap.size]? = some (.cells #[.int .i64 (O k), .int .i64 (D k), .int .i64 (A k), .int .i64 (B k), .int .i64 (C k), .int .u32 (X k)] 34 (0, 0)) := (hgrow.block _ (lt_of_heap (heap_nx HHq.out B2)) NE.out).trans (heap_nx HHq.out B2)
      have d0 : w3.cell? ⟨wr.heap.size, 0, none⟩ = some (.int .i64 (O k)) := by rw [Lib.cell_of_heap h3]; rfl
      have d1 : w3.cell? ⟨wr.heap.size, 1, none⟩ = some (.int .i64 (D k)) := by rw [Lib.cell_of_heap h3]; rfl
      have d2 : w3.cell? ⟨wr.heap.size, 2, none⟩ = some (.int .i64 (A k)) := by rw [Lib.cell_of_heap h3]; rfl
      have d3 : w3.cell? ⟨wr.heap.size, 3, none⟩ = some (.int .i64 (B k)) := by rw [Lib.cell_of_heap h3]; rfl
      have d4 : w3.cell? ⟨wr.heap.size, 4, none⟩ = some (.int .i64 (C k)) := by rw [Lib.cell_of_heap h3]; rfl
      have d5 : w3.cell? ⟨wr.heap.size, 5, none⟩ = some (.int .u32 (X k)) := by rw [Lib.cell_of_heap h3]; rfl
      have HS0 : Hid ((w3.alloc (.cells #[.int .i64 (D k), .int .i64 (A k), .int .i64 (B k), .int .i64 (C k), .int .i64 (X k)] 3)).heap[w3.heap.size]? = some (.cells #[.int .i64 (D k), .int .i64 (A k), .int .i64 (B k), .int .i64 (C k), .int .i64 (X k)] 3 (0, 0))) := heap_nw _ _ _
      have R4 : Hid (Rt w.heap.size (w3.alloc (.cells #[.int .i64 (D k), .int .i64 (A k), .int .i64 (B k), .int .i64 (C k), .int .i64 (X k)] 3)) v3 (E ++ NM ++ FD 0)) := by show Rt _ _ _ _; rw [HF0.out, List.append_nil]; exact R3.out.next ((Below.refl _ _).alloc (Nat.le_refl _) _)
      have B4 : Hid (Below w.heap.size w (w3.alloc (.cells #[.int .i64 (D k), .int .i64 (A k), .int .i64 (B k), .int .i64 (C k), .int .i64 (X k)] 3))) := B3.out.alloc B3.out.size _
      have HEL : Hid ((E ++ NM).length ≤ 37807) := by show _ ≤ _; rw [List.length_append]; omega
      obtain ⟨q, hq⟩ : ∃ q, wr.heap.size = q := ⟨_, rfl⟩
      rw [hq] at d0 d1 d2 d3 d4 d5 ⊢
      obtain ⟨M, hM⟩ : ∃ M, E ++ NM = M := ⟨_, rfl⟩
      have HM : Hid (E ++ NM = M) := hM
      rw [hM] at R4 HEL
      clear hown hgrow h3 c0 c1 c2 c3 c4 c5 R2 B2 hq NE HHq BA R3 HA hM HOs
      go_wp2_with (go_at_call 11; refine (HF.out _).mono ?_; rintro e w4 ⟨rfl, hw⟩; subst w4)
      obtain ⟨s, hs⟩ : ∃ s, w3.heap.size = s := ⟨_, rfl⟩
      rw [hs] at HS0 ⊢
      clear d0 d1 d2 d3 d4 d5 hs B3
      go_loopw [4, 40] (fun vv i wx => ∃ (j : Nat) (v' : Value), j ≤ 5 ∧ i = .int .i64 j ∧ v' = vv ∧ Hid (Rt w.heap.size wx v' (M ++ FD j)) ∧ Hid (Below w.heap.size w wx) ∧ Hid (wx.heap[s]? = some (.cells #[.int .i64 (D k), .int .i64 (A k), .int .i64 (B k), .int .i64 (C k), .int .i64 (X k)] 3 (0, 0)))) (fun _ i _ => 5 - (intOf i).toNat)
      case atStart => exact ⟨0, _, by omega, rfl, rfl, R4, B4, HS0⟩
      case round =>
        obtain ⟨j, v', hj, rfl, rfl, HJ, BJ, SJ⟩ := hrel
        by_cases hj5 : j < 5
        · have j1 : (j : Int) < 5 := by omega
          have j0 : (0 : Int) ≤ (j : Int) := by omega
          have j4 : (0 : Int) ≤ 4 - (j : Int) := by omega
          have cj : wr.cell? ⟨s, j, none⟩ = some (.int .i64 (val (D k) (A k) (B k) (C k) (X k) j)) := by
            rw [Lib.cell_of_heap SJ.out]
            rcases (by omega : j = 0 ∨ j = 1 ∨ j = 2 ∨ j = 3 ∨ j = 4) with rfl | rfl | rfl | rfl | rfl <;> rfl
          have HFj := HFS.out j
          have HLj := HFL.out j hj
          have h28 := H28.out j hj5
          have il := HIl.out j hj5
          have hT := HT.out j hj5
          generalize val (D k) (A k) (B k) (C k) (X k) j = V at cj HFj h28 il
          have F0 : 0 ≤ F := by rw [← HFF.out]; unfold fN; repeat' split; all_goals omega
          have F1 : F ≤ 31 := by rw [← HFF.out]; unfold fN; repeat' split; all_goals omega
          have HML : Hid ((M ++ FD j).length ≤ 37900) := by show _ ≤ _; have := HEL.out; rw [List.length_append]; omega
          cases hN : nmd (O k) j
          · rw [hN] at hT HFj
            have HN : Hid (FD (j + 1) = FD j) := by show _ = _; rw [HFj]; simp
            clear hN HFj
            go_wp2
            go_roundw
            case rel => exact ⟨j + 1, _, by omega, by go_num, rfl, by rw [HN.out]; exact HJ, BJ, SJ⟩
            case measure => simp [intOf]; omega
          · rw [hN] at hT HFj
            have HN : Hid (M ++ FD (j + 1) = M ++ FD j ++ [32] ++ Lib.itoa V) := by show _ = _; rw [HFj]; simp
            generalize M ++ FD j = L at HJ HML HN
            generalize Lib.itoa V = I at h28 il HN
            have HIs : (ByteArray.mk I.toArray).size = I.length := by simp [ByteArray.size]
            clear hN HFj
            go_wp2_with (at_builtin; refine wpList_append_own _ rfl _ _ 31 rfl w.heap.size 5 i5 (.int .u8 0) 1 1 Tryd.underlying31 hi5 hz50 hz51 hz52 rfl (by decide) _ _ _ rfl (HJ.out.1.alloc _) ⟨wr.heap.size, 0, none⟩ 1 1 [.int .u8 32] rfl rfl ?c1 ?c2 ?c3 ?c4 ?c5 ?_)
            case c1 =>
              intro j u hj
              match j, hj with
              | 0, hj => simp at hj; subst hj; simp [Addr.add]
            case c2 => intro u hu; simp at hu; subst hu; rfl
            case c3 => have := HML.out; unfold maxLen; omega
            case c4 => have := HML.out; omega
            case c5 => have := HJ.out.2; simp; omega
            intro v5 w5 hown hgrow _
            have R5 : Hid (Rt w.heap.size w5 v5 (L ++ [32])) := (HJ.out.next ((Below.refl _ _).alloc (Nat.le_refl _) _)).one 32 hown hgrow.size
            have B5 : Hid (Below w.heap.size w w5) := (BJ.out.alloc BJ.out.size _).grown hgrow (by have := BJ.out.size; simp; omega) (fun q hq => (HJ.out.lt q hq).1)
            have S5 : Hid (w5.heap[s]? = some (.cells #[.int .i64 (D k), .int .i64 (A k), .int .i64 (B k), .int .i64 (C k), .int .i64 (X k)] 3 (0, 0))) := (hgrow.block s (by have := lt_of_heap SJ.out; simp; omega) (HJ.out.ne SJ.out (by decide))).trans ((Lib.alloc_old _ _ _ (lt_of_heap SJ.out)).trans SJ.out)
            clear hown hgrow HJ SJ BJ cj
            go_wp2_with (first | (go_at_call 12; refine (h28 _).mono ?_; rintro e w6 ⟨rfl, B6⟩; (have R6 := R5.out.next B6)) | (at_builtin; refine Lib.wpList_append_own_string _ rfl _ _ 31 9 rfl w.heap.size 5 i5 Tryd.underlying31 Tryd.underlying9 hi5 hz50 hz51 hz52 _ _ _ rfl R6.1 ⟨I.toArray⟩ rfl ?t3 ?t4 ?t5 ?_))
            case t3 => have := (show (L ++ [32]).length + (ByteArray.mk I.toArray).size ≤ 37920 by rw [List.length_append]; have := HML.out; simp only [List.length_cons, List.length_nil]; omega); unfold maxLen; omega
            case t4 => have := (show (L ++ [32]).length + (ByteArray.mk I.toArray).size ≤ 37920 by rw [List.length_append]; have := HML.out; simp only [List.length_cons, List.length_nil]; omega); omega
            case t5 => exact R6.2
            intro v7 w7 hown hgrow _
            have R7 : Hid (Rt w.heap.size w7 v7 (M ++ FD (j + 1))) := by have := R6.str ⟨I.toArray⟩ (by rw [List.length_append, HIs]; exact hown) hgrow; show Rt _ _ _ _; rw [HN.out]; simpa using this
            have B7 : Hid (Below w.heap.size w w7) := (B5.out.trans (B6.mono B5.out.size)).grown hgrow (by have := B5.out.size; have := B6.size; omega) (fun q hq => (R6.lt q hq).1)
            have S7 : Hid (w7.heap[s]? = some (.cells #[.int .i64 (D k), .int .i64 (A k), .int .i64 (B k), .int .i64 (C k), .int .i64 (X k)] 3 (0, 0))) := (hgrow.block s (lt_of_heap (heap_nx S5.out B6)) (R6.ne (heap_nx S5.out B6) (by decide))).trans (heap_nx S5.out B6)
            clear hown hgrow R6 B6 R5 B5 S5
            go_wp2
            go_roundw
            case rel => exact ⟨j + 1, _, by omega, by go_num, rfl, R7, B7, S7⟩
            case measure => simp [intOf]; omega
        · obtain rfl : j = 5 := by omega
          rw [show ((5 : Nat) : Int) = 5 from rfl]
          have HN : Hid (codeT O D A B C X (k + 1) = M ++ FD 5 ++ [10]) := by show _ = _; rw [HE.out, ← HM.out]; simp
          have HML : Hid ((M ++ FD 5).length ≤ 37900) := by show _ ≤ _; have := HEL.out; have := HFL.out 5 (by omega); rw [List.length_append]; omega
          generalize M ++ FD 5 = L at HJ HML HN
          clear HFS HFL HT H28 HIl HVv
          go_wp2_with (at_builtin; refine wpList_append_own _ rfl _ _ 31 rfl w.heap.size 5 i5 (.int .u8 0) 1 1 Tryd.underlying31 hi5 hz50 hz51 hz52 rfl (by decide) _ _ _ rfl (HJ.out.1.alloc _) ⟨wr.heap.size, 0, none⟩ 1 1 [.int .u8 10] rfl rfl ?c1 ?c2 ?c3 ?c4 ?c5 ?_)
          case c1 =>
            intro j u hj
            match j, hj with
            | 0, hj => simp at hj; subst hj; simp [Addr.add]
          case c2 => intro u hu; simp at hu; subst hu; rfl
          case c3 => have := HML.out; unfold maxLen; omega
          case c4 => have := HML.out; omega
          case c5 => have := HJ.out.2; simp; omega
          intro v5 w5 hown hgrow _
          have R5 : Hid (Rt w.heap.size w5 v5 (codeT O D A B C X (k + 1))) := by show Rt _ _ _ _; rw [HN.out]; exact (HJ.out.next ((Below.refl _ _).alloc (Nat.le_refl _) _)).one 10 hown hgrow.size
          have B5 : Hid (Below w.heap.size w w5) := (BJ.out.alloc BJ.out.size _).grown hgrow (by have := BJ.out.size; simp; omega) (fun q hq => (HJ.out.lt q hq).1)
          clear hown hgrow HJ SJ BJ
          go_wp2
          go_roundw
          case rel => exact ⟨k + 1, _, by omega, by go_num, rfl, R5, B5.out⟩
          case measure => simp [intOf]; omega
    · obtain rfl : k = n := by omega
      have i1 : ¬ (k : Int) < (k : Int) := by omega
      have cv := HU.out.text
      have HV' : Hid (S = ⟨(codeT O D A B C X k).toArray⟩) := HV
      generalize (ByteArray.mk (codeT O D A B C X k).toArray) = S' at cv HV'
      clear HU HV RK
      go_wp2
      go_ret2
      exact ⟨by rw [HV'.out]; rfl, BK⟩
end Go.Proofs.YtdhhafmodkodbaaDoor
