/- The program's joined, halved. -/
import Derived.Test.YthkngcdfnemhaaaBb
namespace Go.Proofs.Ythkngcdfnemhaaa
open Go.ChangeShapes Go.WideShapes Go.ChangeAt Go.RowKit
set_option linter.unusedVariables false
set_option maxRecDepth 100000 in
set_option maxHeartbeats 4000000 in
theorem pjoined (l : Int) (hf : l = 1 ∨ l = 2 ∨ l = 3) (A H : Int) (u : Value) (L : List Int) (x y : Int) (w : World) (R : BRow w u L) (bf : ∀ j, j < L.length → 0 ≤ L.getD j 0 ∧ L.getD j 0 ≤ 255) (a0 : 1 ≤ A) (a1 : A ≤ 16) (b0 : 1 ≤ H) (b1 : H ≤ 16) (hl : (L.length : Int) = A * H * (szF l : Int)) (x0 : 0 ≤ x) (x1 : x + (mn2 A : Nat) ≤ A) (y0 : 0 ≤ y) (y1 : y + (mn2 H : Nat) ≤ H) (hlk : L.length ≤ 1048576) :
    Calls Try.prog 79 #[.agg #[.int .i64 A, .int .i64 H, fmV l, u], .int .i64 x, .int .i64 y] w fun e w' => e = .returned (colV (blC (mn2 H * mn2 A) (jnC l A L x y) one)) ∧ Below w.heap.size w w' := by
  have na := mn2_pos a0
  have nh := mn2_pos b0
  have HA : Hid (∀ i j : Nat, i < mn2 A → j < mn2 H → ∀ w', Below w.heap.size w w' → Calls Try.prog 83 #[.agg #[.int .i64 A, .int .i64 H, fmV l, u], .int .i64 (x + (i : Int)), .int .i64 (y + (j : Int))] w' fun e w'' => e = .returned (colV (jnC l A L x y (j * mn2 A + i))) ∧ Below w'.heap.size w' w'') := fun i j hi hj w' b => by
    obtain ⟨f1, f2, f3, f4, f5⟩ := pt_facts hf a0 a1 b0 b1 hl (show 0 ≤ x + (i : Int) by omega) (show x + (i : Int) < A by omega) (show 0 ≤ y + (j : Int) by omega) (show y + (j : Int) < H by omega)
    have h := pat l u L (ptN l A (x + (i : Int)) (y + (j : Int))) A H (x + (i : Int)) (y + (j : Int)) w' (R.next b) hf bf f1 f2 f3 f4 (by omega) (by omega) f5 hlk
    have e1 : (j * mn2 A + i) % mn2 A = i := by rw [Nat.mul_comm, Nat.mul_add_mod]; exact Nat.mod_eq_of_lt hi
    have e2 : (j * mn2 A + i) / mn2 A = j := by rw [Nat.mul_comm, Nat.mul_add_div (by omega), Nat.div_eq_of_lt hi, Nat.add_zero]
    have e3 : jnC l A L x y (j * mn2 A + i) = pxC l L (ptN l A (x + (i : Int)) (y + (j : Int))) := by unfold jnC; rw [e1, e2]
    rw [e3]
    exact h
  have HOK : Hid (∀ i, (jnC l A L x y i).ok) := fun i => px_ok l L _ hf bf
  have hp : 1 * 1 ≤ mn2 H * mn2 A := Nat.mul_le_mul nh.1 na.1
  have hq : mn2 H * mn2 A ≤ 2 * 2 := Nat.mul_le_mul nh.2 na.2
  have HBL : Hid (∀ w' vv, PRow w' vv (mn2 H * mn2 A) (jnC l A L x y) one → Calls Try.prog 71 #[vv] w' fun e' w'' => e' = .returned (colV (blC (mn2 H * mn2 A) (jnC l A L x y) one)) ∧ Below w'.heap.size w' w'') := fun w' vv r => pblend _ _ one vv w' r (by omega) (fun i _ => HOK.out i) (fun i _ => by unfold one; omega) (by rw [al_one]; omega)
  generalize blC (mn2 H * mn2 A) (jnC l A L x y) one = Q at HBL ⊢
  generalize jnC l A L x y = C at HA HOK HBL
  have hA1 : (if A < 2 then A else 2) = ((mn2 A : Nat) : Int) := by unfold mn2; split <;> omega
  have hA2 : (if (2 : Int) < A then 2 else A) = ((mn2 A : Nat) : Int) := by unfold mn2; split <;> omega
  have hA3 : min A 2 = ((mn2 A : Nat) : Int) := by unfold mn2; omega
  have hH1 : (if H < 2 then H else 2) = ((mn2 H : Nat) : Int) := by unfold mn2; split <;> omega
  have hH2 : (if (2 : Int) < H then 2 else H) = ((mn2 H : Nat) : Int) := by unfold mn2; split <;> omega
  have hH3 : min H 2 = ((mn2 H : Nat) : Int) := by unfold mn2; omega
  generalize mn2 A = nA at *
  generalize mn2 H = nH at *
  obtain ⟨na0, na1⟩ := na
  obtain ⟨nh0, nh1⟩ := nh
  obtain ⟨ra, rc, rfl, -⟩ := R
  generalize L.length = lk at *
  obtain ⟨ft, hft⟩ := fmV_is (show fmB l = true by rcases hf with rfl | rfl | rfl <;> rfl)
  rw [hft] at HA ⊢
  clear hft hf bf hl HOK hlk
  unfold colV at HA HBL ⊢
  have BV : Below w.heap.size w ((w.alloc (.cells #[.int .i64 A, .int .i64 H, .iface ft (.agg #[]), .slice ra lk rc] 81)).alloc (.cells #[.int .i64 0, .int .i64 0, .int .i64 0, .int .i64 0] 25)) := b2_
  have TP : C4 ((w.alloc (.cells #[.int .i64 A, .int .i64 H, .iface ft (.agg #[]), .slice ra lk rc] 81)).alloc (.cells #[.int .i64 0, .int .i64 0, .int .i64 0, .int .i64 0] 25)) w.heap.size (.int .i64 A) (.int .i64 H) (.iface ft (.agg #[])) (.slice ra lk rc) := (C4.new w 81 (.int .i64 A) (.int .i64 H) (.iface ft (.agg #[])) (.slice ra lk rc)).next alloc_b
  have RB : C4 ((w.alloc (.cells #[.int .i64 A, .int .i64 H, .iface ft (.agg #[]), .slice ra lk rc] 81)).alloc (.cells #[.int .i64 0, .int .i64 0, .int .i64 0, .int .i64 0] 25)) (w.heap.size + 1) (.int .i64 0) (.int .i64 0) (.int .i64 0) (.int .i64 0) := by
    have h := C4.new (w.alloc (.cells #[.int .i64 A, .int .i64 H, .iface ft (.agg #[]), .slice ra lk rc] 81)) 25 (.int .i64 0) (.int .i64 0) (.int .i64 0) (.int .i64 0)
    rwa [World.size_alloc] at h
  have hsz : ((w.alloc (.cells #[.int .i64 A, .int .i64 H, .iface ft (.agg #[]), .slice ra lk rc] 81)).alloc (.cells #[.int .i64 0, .int .i64 0, .int .i64 0, .int .i64 0] 25)).heap.size = w.heap.size + 1 + 1 := by simp
  obtain ⟨V0, hV0⟩ : ∃ z, ((w.alloc (.cells #[.int .i64 A, .int .i64 H, .iface ft (.agg #[]), .slice ra lk rc] 81)).alloc (.cells #[.int .i64 0, .int .i64 0, .int .i64 0, .int .i64 0] 25)) = z := ⟨_, rfl⟩
  have HV0 := Hid.mk hV0
  rw [hV0] at BV TP RB hsz
  clear hV0
  have P0 : PR (w.heap.size + 1 + 1) V0 (.slice none 0 0) C 0 := PR.nil _ _ _ (by omega)
  have t0 := TP.c0
  have t1 := TP.c1
  have t2 := TP.c2
  have t3 := TP.c3
  go_enter Try.func79, Try.ntmps79
  go_upto_region 1 with fail
  rw [HV0.out]
  clear HV0
  go_upto_region 3 with fail
  clear t0 t1 t2 t3
  go_loopw [7, 13] (fun av jv wr => ∃ (j : Nat) (v : Value), j ≤ nH ∧ jv = .int .i64 (j : Int) ∧ v = av ∧ Hid (PR (w.heap.size + 1 + 1) wr v C (j * nA) ∧ Below (w.heap.size + 1 + 1) V0 wr)) (fun _ jv _ => nH - (intOf jv).toNat)
  case atStart => exact ⟨0, _, Nat.zero_le _, rfl, rfl, ⟨by rw [Nat.zero_mul]; exact P0, Below.refl _ _⟩⟩
  case round =>
    clear P0
    obtain ⟨j, v, hj, rfl, rfl, HR⟩ := hrel
    obtain ⟨PW, BR⟩ := HR.out
    by_cases hjn : j < nH
    · have i1 : (j : Int) < (nH : Int) := by omega
      have i0 : (0 : Int) ≤ (j : Int) := by omega
      have T1 := TP.low BR (by omega)
      have t0 := T1.c0
      have t1 := T1.c1
      have t2 := T1.c2
      have t3 := T1.c3
      have HPW : Hid (PR (w.heap.size + 1 + 1) wr v C (j * nA)) := PW
      clear HR PW
      go_upto_region 6 with fail
      clear t0 t1 t2 t3 T1
      have HJ : Hid (PR (w.heap.size + 1 + 1) wr v C (j * nA) ∧ Below (w.heap.size + 1 + 1) V0 wr) := ⟨HPW.out, BR⟩
      clear HPW BR
      go_loopw [7, 19] (fun av iv wi => ∃ (i : Nat) (v : Value), i ≤ nA ∧ iv = .int .i64 (i : Int) ∧ v = av ∧ Hid (PR (w.heap.size + 1 + 1) wi v C (j * nA + i) ∧ Below (w.heap.size + 1 + 1) V0 wi)) (fun _ iv _ => nA - (intOf iv).toNat)
      case atStart => exact ⟨0, _, Nat.zero_le _, rfl, rfl, HJ⟩
      case round =>
        clear HJ
        obtain ⟨i, v, hi, rfl, rfl, HR⟩ := hrel
        obtain ⟨PW, BI⟩ := HR.out
        clear HR
        by_cases hin : i < nA
        · have k1 : (i : Int) < (nA : Int) := by omega
          have k0 : (0 : Int) ≤ (i : Int) := by omega
          have T2 := TP.low BI (by omega)
          have BW : Below w.heap.size w wr := BV.trans (BI.mono (by omega))
          have t0 := T2.c0
          have t1 := T2.c1
          have t2 := T2.c2
          have t3 := T2.c3
          have HAT := Hid.mk (HA.out i j hin hjn)
          have hkb : j * nA + i < 1000 := by
            have h1 : (j + 1) * nA ≤ nH * nA := Nat.mul_le_mul_right _ hjn
            have h2 : (j + 1) * nA = j * nA + nA := Nat.succ_mul j nA
            have h3 : nH * nA ≤ 2 * 2 := Nat.mul_le_mul nh1 na1
            omega
          obtain ⟨k, hk⟩ : ∃ k, j * nA + i = k := ⟨_, rfl⟩
          rw [hk] at PW HAT hkb
          obtain ⟨q, hq⟩ : ∃ q, C k = q := ⟨_, rfl⟩
          rw [hq] at HAT
          have HQ := Hid.mk hq
          have HK := Hid.mk hk
          clear hq hk T2
          have PW := Hid.mk PW
          go_wp2_with (first
            | (go_at_call 83; refine (HAT.out _ BW).mono ?_; rintro e9 w3 ⟨rfl, B3⟩; (have PW3 := PW.out.next B3); (have BI3 := BI.trans (B3.mono PW.out.2)))
            | (at_builtin; refine wpList_append_pr (.tmp 22) (.tmp 32) rfl rfl rfl rfl (PW3.next (alloc_b (o := (.cells #[.int .i64 (q).r, .int .i64 (q).g, .int .i64 (q).b, .int .i64 (q).a, .int .i64 1] 96)))) (by rw [HQ.out]; exact ⟨by simp, by simp, by simp, by simp, by simp⟩) hkb ?_; intro g cap w5 HPN hgr))
          go_roundw
          case rel =>
            have B5 : Below (w.heap.size + 1 + 1) w3 w5 := (alloc_b.mono PW3.2).trans (below_grown (Below.refl _ _) (Nat.le_trans PW3.2 alloc_b.size) hgr (fun z hz => (PW3.lt z hz).1))
            exact ⟨i + 1, _, by omega, by go_num, rfl, ⟨by have e := HK.out; rw [show j * nA + (i + 1) = k + 1 by omega]; exact HPN, BI3.trans B5⟩⟩
          case measure => simp [intOf]; omega
        · obtain rfl : nA = i := by omega
          have k1 : ¬ (nA : Int) < (nA : Int) := by omega
          have HF : Hid (PR (w.heap.size + 1 + 1) wr v C ((j + 1) * nA) ∧ Below (w.heap.size + 1 + 1) V0 wr) := ⟨by rw [Nat.succ_mul]; exact PW, BI⟩
          clear PW BI
          go_wp2
          go_roundw
          case rel => exact ⟨j + 1, _, by omega, by go_num, rfl, HF⟩
          case measure => simp [intOf]; omega
    · obtain rfl : nH = j := by omega
      have i1 : ¬ (nH : Int) < (nH : Int) := by omega
      have BW : Below w.heap.size w wr := BV.trans (BR.mono (by omega))
      have R1 := RB.low BR (by omega)
      have PRW := PW.prow (by omega)
      clear HR PW
      go_wp2_with (go_at_call 71; refine (HBL.out _ _ PRW).mono ?_; rintro e9 w3 ⟨rfl, B3⟩; (have R3 := R1.next B3); (have BW3 := BW.trans (B3.mono BW.size)); (have x0 := R3.c0); (have x1 := R3.c1); (have x2 := R3.c2); (have x3 := R3.c3); (have xf := R3.f))
      clear x0 x1 x2 x3 xf
      have D6 := R3.put (.int .i64 (Q).r) (.int .i64 (Q).g) (.int .i64 (Q).b) (.int .i64 (Q).a)
      have B06 : Below w.heap.size w (set4 w3 (w.heap.size + 1) (.int .i64 (Q).r) (.int .i64 (Q).g) (.int .i64 (Q).b) (.int .i64 (Q).a)) := BW3.trans ((only_set4 w3 (w.heap.size + 1) (.int .i64 (Q).r) (.int .i64 (Q).g) (.int .i64 (Q).b) (.int .i64 (Q).a)).below (by omega) BW3.size)
      unfold set4 at D6 B06
      have r0 := D6.c0
      have r1 := D6.c1
      have r2 := D6.c2
      have r3 := D6.c3
      exact bodyPost_ret (v := .agg #[.int .i64 (Q).r, .int .i64 (Q).g, .int .i64 (Q).b, .int .i64 (Q).a]) (by simp [results, Try.results79, go_sem, r0, r1, r2, r3]) rfl ⟨rfl, B06⟩
end Go.Proofs.Ythkngcdfnemhaaa
