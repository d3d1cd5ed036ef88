/- The model's JoinsFine. -/
import Derived.Test.YtablacgmedkgjaaDoorJfm
namespace Go.Proofs.YtablacgmedkgjaaDoor
open Go.ChangeShapes Go.WideShapes Go.ChangeAt Go.RowKit
set_option linter.unusedVariables false
theorem ints_nw (w : World) (H : Nat) (hH : w.heap.size = H) (L : List Int) (i : Nat) (hi : i < L.length) : (w.alloc (.cells (L.map (Value.int .i64)).toArray 3)).cell? ⟨H, i, none⟩ = some (.int .i64 (L.getD i 0)) := by
  subst hH
  rw [World.cell?_alloc_mark]
  simp [List.getD, hi]
set_option maxRecDepth 100000 in
set_option maxHeartbeats 2000000 in
theorem targets44 (o d a b c x : Int) (w : World) : Calls Tryd.prog 79 #[.agg #[.int .i64 o, .int .i64 d, .int .i64 a, .int .i64 b, .int .i64 c, .int .u32 x]] w fun e w' => ∃ u, e = .returned u ∧ Lst w' u (tgL o a b c) ∧ Below w.heap.size w w' := by
  by_cases h8 : o = 8
  · subst h8
    obtain ⟨L, hL⟩ : ∃ L, tgL 8 a b c = L := ⟨_, rfl⟩
    rw [hL]
    have HL : Hid ([a] = L) := hL
    clear hL
    go_enter Tryd.func79, Tryd.ntmps79
    go_wp2
    go_ret
    obtain rfl : [a] = L := HL.out
    exact ⟨_, rfl, ⟨_, 1, rfl, fun i hi => ⟨_, rfl, ints_nw _ _ (by simp) [a] i hi⟩⟩, ((Below.refl _ _).alloc (Nat.le_refl _) _).alloc (by simp) _⟩
  by_cases h9 : o = 9
  · subst h9
    obtain ⟨L, hL⟩ : ∃ L, tgL 9 a b c = L := ⟨_, rfl⟩
    rw [hL]
    have HL : Hid ([b, c] = L) := hL
    clear hL h8
    go_enter Tryd.func79, Tryd.ntmps79
    go_wp2
    go_ret
    obtain rfl : [b, c] = L := HL.out
    exact ⟨_, rfl, ⟨_, 2, rfl, fun i hi => ⟨_, rfl, ints_nw _ _ (by simp) [b, c] i hi⟩⟩, ((Below.refl _ _).alloc (Nat.le_refl _) _).alloc (by simp) _⟩
  have f8 : (o == 8) = false := by simp; omega
  have f9 : (o == 9) = false := by simp; omega
  rw [show tgL o a b c = [] by unfold tgL; rw [if_neg h8, if_neg h9]]
  clear h8 h9
  go_enter Tryd.func79, Tryd.ntmps79
  go_wp2
  go_ret
  exact ⟨_, rfl, ⟨none, 0, rfl, fun i hi => absurd hi (by simp)⟩, (Below.refl _ _).alloc (Nat.le_refl _) _⟩
set_option maxRecDepth 100000 in
set_option maxHeartbeats 8000000 in
theorem fine23 (n a cap z : Nat) (O D A B C X : Nat → Int) (w : World) (R : RowI w a n O D A B C X) (hz : z < n) (hn : n ≤ 600) (j0 : 0 ≤ C z) (j1 : C z < 4294967296) : Calls Tryd.prog 56 #[.slice (some ⟨a, 0, none⟩) n cap, .int .i64 (z : Int)] w fun e w' => e = .returned (.bool (fineS O A B C n z)) ∧ Below w.heap.size w w' := by
  have H44 : Hid (∀ k v, Calls Tryd.prog 79 #[.agg #[.int .i64 (O k), .int .i64 (D k), .int .i64 (A k), .int .i64 (B k), .int .i64 (C k), .int .u32 (X k)]] v fun e w' => ∃ u, e = .returned u ∧ Lst w' u (tgL (O k) (A k) (B k) (C k)) ∧ Below v.heap.size v w') := fun k v => targets44 _ _ _ _ _ _ v
  have HR : Hid (RowI w a n O D A B C X) := R
  have w1 : wrap64 (C z - 1) = C z - 1 := by unfold wrap64; omega
  have z0 := R.c0 z hz
  have z1 := R.c1 z hz
  have z2 := R.c2 z hz
  have z3 := R.c3 z hz
  have z4 := R.c4 z hz
  have z5 := R.c5 z hz
  have iz : (z : Int) < (n : Int) := by omega
  have HF0 : Hid (fineS O A B C n z = ((decide ((z : Int) < B z) && (decide ((z : Int) < C z) && decide (B z ≤ C z))) && allB (rowS O A B C (z : Int) (C z)) n)) := rfl
  generalize fineS O A B C n z = J at HF0 ⊢
  clear R
  by_cases b1 : (z : Int) < B z
  · by_cases b2 : (z : Int) < C z
    · by_cases b3 : B z ≤ C z
      · have HF : Hid (J = allB (rowS O A B C (z : Int) (C z)) n) := by show _ = _; rw [HF0.out, decide_eq_true b1, decide_eq_true b2, decide_eq_true b3]; rfl
        have q0 : (z : Int) < B z := by omega
        have q1 : ¬ B z ≤ (z : Int) := by omega
        have q2 : (z : Int) < C z := by omega
        have q3 : ¬ C z ≤ (z : Int) := by omega
        have q4 : B z ≤ C z := by omega
        have q5 : ¬ C z < B z := by omega
        clear HF0
        go_enter Tryd.func56, Tryd.ntmps56
        go_wp2
        have HC : Hid ((w.alloc (.cells #[.int .i64 (O z), .int .i64 (D z), .int .i64 (A z), .int .i64 (B z), .int .i64 (C z), .int .u32 (X z)] 35)).cell? ⟨w.heap.size, 4, none⟩ = some (.int .i64 (C z))) := by show _ = _; simp
        have BW : Hid (Below w.heap.size w (w.alloc (.cells #[.int .i64 (O z), .int .i64 (D z), .int .i64 (A z), .int .i64 (B z), .int .i64 (C z), .int .u32 (X z)] 35))) := (Below.refl _ _).alloc (Nat.le_refl _) _
        clear z0 z1 z2 z3 z4 z5 b1 b2 b3 q0 q1 q2 q3 q4 q5
        obtain ⟨W, hW⟩ : ∃ W, w.alloc (.cells #[.int .i64 (O z), .int .i64 (D z), .int .i64 (A z), .int .i64 (B z), .int .i64 (C z), .int .u32 (X z)] 35) = W := ⟨_, rfl⟩
        obtain ⟨p, hp⟩ : ∃ p, w.heap.size = p := ⟨_, rfl⟩
        have HP : Hid (w.heap.size = p) := hp
        rw [hW] at HC BW ⊢
        rw [hp] at HC ⊢
        have HRW : Hid (RowI W a n O D A B C X) := HR.out.next BW.out
        clear hW hp
        go_loopw [35] (fun i wx => ∃ k : Nat, k ≤ n ∧ i = .int .i64 k ∧ Hid (allB (rowS O A B C (z : Int) (C z)) k = true) ∧ Below W.heap.size W wx) (fun i _ => n - (intOf i).toNat)
        case atStart => exact ⟨0, by omega, rfl, rfl, Below.refl _ _⟩
        case round =>
          obtain ⟨k, hk, rfl, HA, BQ⟩ := hrel
          have RK := HRW.out.next BQ
          by_cases hkn : k < n
          · have i1 : (k : Int) < (n : Int) := by omega
            have c0 := RK.c0 k hkn
            have c1 := RK.c1 k hkn
            have c2 := RK.c2 k hkn
            have c3 := RK.c3 k hkn
            have c4 := RK.c4 k hkn
            have c5 := RK.c5 k hkn
            have h44 := H44.out k
            have BA : Hid (Below W.heap.size W (wr.alloc (.cells #[.int .i64 (O k), .int .i64 (D k), .int .i64 (A k), .int .i64 (B k), .int .i64 (C k), .int .u32 (X k)] 35))) := BQ.alloc BQ.size _
            have d0 : (wr.alloc (.cells #[.int .i64 (O k), .int .i64 (D k), .int .i64 (A k), .int .i64 (B k), .int .i64 (C k), .int .u32 (X k)] 35)).cell? ⟨wr.heap.size, 0, none⟩ = some (.int .i64 (O k)) := by simp
            have d4 : (wr.alloc (.cells #[.int .i64 (O k), .int .i64 (D k), .int .i64 (A k), .int .i64 (B k), .int .i64 (C k), .int .u32 (X k)] 35)).cell? ⟨p, 4, none⟩ = some (.int .i64 (C z)) := cell_nx HC.out BA.out
            clear RK BQ
            by_cases hk1 : (z : Int) < (k : Int)
            · by_cases hk2 : (k : Int) < C z
              · skip
                have q0 : (z : Int) < (k : Int) := by omega
                have q1 : ¬ (k : Int) ≤ (z : Int) := by omega
                have q2 : (k : Int) < C z := by omega
                have q3 : ¬ C z ≤ (k : Int) := by omega
                go_wp2_with (go_at_call 79; refine (h44 _).mono ?_; rintro e w3 ⟨u, rfl, LU, B3⟩; (have e0 := cell_nx d0 B3); (have e4 := cell_nx d4 B3); (obtain ⟨ad, cp, rfl, CM⟩ := LU))
                have BB : Hid (Below w.heap.size w w3) := BW.out.trans ((BA.out.trans (B3.mono BA.out.size)).mono BW.out.size)
                have BC : Hid (Below W.heap.size W w3) := BA.out.trans (B3.mono BA.out.size)
                clear B3 h44 c0 c1 c2 c3 c4 c5 d0 d4 BA
                obtain ⟨M, hM⟩ : ∃ M, tgL (O k) (A k) (B k) (C k) = M := ⟨_, rfl⟩
                have HRS : Hid (rowS O A B C (z : Int) (C z) k = allL (jS z (C z) (O k) k) M) := by show _ = _; rw [← hM]; rfl
                have HML : M.length ≤ 2 := by rw [← hM]; exact tgL_len _ _ _ _
                rw [hM] at CM ⊢
                clear hM
                obtain ⟨m, hm⟩ : ∃ m, M.length = m := ⟨_, rfl⟩
                have HM : Hid (M.length = m) := hm
                have HCM : Hid (∀ i, i < M.length → ∃ g, ad = some ⟨g, 0, none⟩ ∧ World.cell? w3 ⟨g, i, none⟩ = some (.int .i64 (M.getD i 0))) := CM
                rw [hm]
                have hm2 : m ≤ 2 := by rw [← hm]; exact HML
                clear CM hm HML
                obtain ⟨q, hq⟩ : ∃ q, wr.heap.size = q := ⟨_, rfl⟩
                rw [hq] at e0 ⊢
                go_wp2
                go_loop [52] (fun i => ∃ j : Nat, j ≤ m ∧ i = .int .i64 j ∧ Hid (allL (jS z (C z) (O k) k) (M.take j) = true)) (fun i => m - (intOf i).toNat)
                case atStart => exact ⟨0, by omega, rfl, rfl⟩
                case round =>
                  obtain ⟨j, hj, rfl, HB⟩ := hrel
                  by_cases hjm : j < m
                  · have i2 : (j : Int) < (m : Int) := by omega
                    obtain ⟨g, had, ct⟩ := HCM.out j (by rw [HM.out]; exact hjm)
                    subst had
                    have HT : Hid (jS z (C z) (O k) k (M.getD j 0) = true → allL (jS z (C z) (O k) k) (M.take (j + 1)) = true) := fun h => allL_take _ M j (by rw [HM.out]; exact hjm) HB.out h
                    have HS : Hid (jS z (C z) (O k) k (M.getD j 0) = false → J = false) := fun h => by rw [HF.out]; exact allB_stop _ k (by rw [HRS.out]; exact allL_stop _ M j (by rw [HM.out]; exact hjm) h) n hkn
                    generalize M.getD j 0 = t at ct HT HS
                    by_cases o8 : O k = 8
                    · have e8 : (O k == 8) = true := by simp [o8]
                      by_cases kc : (k : Int) = C z - 1
                      · have ek : ((k : Int) == C z - 1) = true := by simp [kc]
                        by_cases t2 : t ≤ C z
                        · by_cases t1 : t ≤ (z : Int)
                          · skip
                            have q0 : t ≤ (z : Int) := by omega
                            have q1 : ¬ (z : Int) < t := by omega
                            have q2 : t ≤ C z := by omega
                            have q3 : ¬ C z < t := by omega
                            have HQ : Hid (allL (jS z (C z) (O k) k) (M.take (j + 1)) = true) := HT.out ((jS_iff _ _ _ _ _).2 ⟨by omega, by omega⟩)
                            clear HT HS HB
                            go_wp2
                            go_round
                            case rel => exact ⟨j + 1, hjm, by go_num, HQ⟩
                            case measure => simp [intOf]; omega
                          · skip
                            have q0 : (z : Int) < t := by omega
                            have q1 : ¬ t ≤ (z : Int) := by omega
                            have q2 : t ≤ C z := by omega
                            have q3 : ¬ C z < t := by omega
                            have HQ : Hid (allL (jS z (C z) (O k) k) (M.take (j + 1)) = true) := HT.out ((jS_iff _ _ _ _ _).2 ⟨by omega, by omega⟩)
                            clear HT HS HB
                            go_wp2
                            go_round
                            case rel => exact ⟨j + 1, hjm, by go_num, HQ⟩
                            case measure => simp [intOf]; omega
                        · by_cases t1 : t ≤ (z : Int)
                          · exfalso; omega
                          · skip
                            have q0 : (z : Int) < t := by omega
                            have q1 : ¬ t ≤ (z : Int) := by omega
                            have q2 : C z < t := by omega
                            have q3 : ¬ t ≤ C z := by omega
                            have HQ : Hid (J = false) := HS.out (Bool.eq_false_iff.2 fun h => by have := (jS_iff _ _ _ _ _).1 h; omega)
                            clear HT HS HB
                            go_wp2
                            go_ret
                            exact ⟨by rw [HQ.out]; rfl, BB.out⟩
                      · have ek : ((k : Int) == C z - 1) = false := by simp [kc]
                        by_cases t2 : t ≤ C z
                        · by_cases t1 : t ≤ (z : Int)
                          · skip
                            have q0 : t ≤ (z : Int) := by omega
                            have q1 : ¬ (z : Int) < t := by omega
                            have q2 : t ≤ C z := by omega
                            have q3 : ¬ C z < t := by omega
                            have HQ : Hid (J = false) := HS.out (Bool.eq_false_iff.2 fun h => by have := (jS_iff _ _ _ _ _).1 h; omega)
                            clear HT HS HB
                            go_wp2
                            go_ret
                            exact ⟨by rw [HQ.out]; rfl, BB.out⟩
                          · skip
                            have q0 : (z : Int) < t := by omega
                            have q1 : ¬ t ≤ (z : Int) := by omega
                            have q2 : t ≤ C z := by omega
                            have q3 : ¬ C z < t := by omega
                            have HQ : Hid (allL (jS z (C z) (O k) k) (M.take (j + 1)) = true) := HT.out ((jS_iff _ _ _ _ _).2 ⟨by omega, by omega⟩)
                            clear HT HS HB
                            go_wp2
                            go_round
                            case rel => exact ⟨j + 1, hjm, by go_num, HQ⟩
                            case measure => simp [intOf]; omega
                        · by_cases t1 : t ≤ (z : Int)
                          · exfalso; omega
                          · skip
                            have q0 : (z : Int) < t := by omega
                            have q1 : ¬ t ≤ (z : Int) := by omega
                            have q2 : C z < t := by omega
                            have q3 : ¬ t ≤ C z := by omega
                            have HQ : Hid (J = false) := HS.out (Bool.eq_false_iff.2 fun h => by have := (jS_iff _ _ _ _ _).1 h; omega)
                            clear HT HS HB
                            go_wp2
                            go_ret
                            exact ⟨by rw [HQ.out]; rfl, BB.out⟩
                    · have e8 : (O k == 8) = false := by simp [o8]
                      by_cases t2 : t ≤ C z
                      · by_cases t1 : t ≤ (z : Int)
                        · skip
                          have q0 : t ≤ (z : Int) := by omega
                          have q1 : ¬ (z : Int) < t := by omega
                          have q2 : t ≤ C z := by omega
                          have q3 : ¬ C z < t := by omega
                          have HQ : Hid (J = false) := HS.out (Bool.eq_false_iff.2 fun h => by have := (jS_iff _ _ _ _ _).1 h; omega)
                          clear HT HS HB
                          go_wp2
                          go_ret
                          exact ⟨by rw [HQ.out]; rfl, BB.out⟩
                        · skip
                          have q0 : (z : Int) < t := by omega
                          have q1 : ¬ t ≤ (z : Int) := by omega
                          have q2 : t ≤ C z := by omega
                          have q3 : ¬ C z < t := by omega
                          have HQ : Hid (allL (jS z (C z) (O k) k) (M.take (j + 1)) = true) := HT.out ((jS_iff _ _ _ _ _).2 ⟨by omega, by omega⟩)
                          clear HT HS HB
                          go_wp2
                          go_round
                          case rel => exact ⟨j + 1, hjm, by go_num, HQ⟩
                          case measure => simp [intOf]; omega
                      · by_cases t1 : t ≤ (z : Int)
                        · exfalso; omega
                        · skip
                          have q0 : (z : Int) < t := by omega
                          have q1 : ¬ t ≤ (z : Int) := by omega
                          have q2 : C z < t := by omega
                          have q3 : ¬ t ≤ C z := by omega
                          have HQ : Hid (J = false) := HS.out (Bool.eq_false_iff.2 fun h => by have := (jS_iff _ _ _ _ _).1 h; omega)
                          clear HT HS HB
                          go_wp2
                          go_ret
                          exact ⟨by rw [HQ.out]; rfl, BB.out⟩
                  · have i2 : ¬ (j : Int) < (m : Int) := by omega
                    have HQ : Hid (allB (rowS O A B C (z : Int) (C z)) (k + 1) = true) := by
                      show (allB (rowS O A B C (z : Int) (C z)) k && rowS O A B C (z : Int) (C z) k) = true
                      rw [HA.out, HRS.out]
                      have := HB.out
                      rw [List.take_of_length_le (by rw [HM.out]; omega)] at this
                      exact this
                    go_wp2
                    go_roundw
                    case rel => exact ⟨k + 1, hkn, by go_num, HQ, BC.out⟩
                    case measure => simp [intOf]; omega
              · skip
                have q0 : (z : Int) < (k : Int) := by omega
                have q1 : ¬ (k : Int) ≤ (z : Int) := by omega
                have q2 : C z ≤ (k : Int) := by omega
                have q3 : ¬ (k : Int) < C z := by omega
                go_wp2_with (go_at_call 79; refine (h44 _).mono ?_; rintro e w3 ⟨u, rfl, LU, B3⟩; (have e0 := cell_nx d0 B3); (have e4 := cell_nx d4 B3); (obtain ⟨ad, cp, rfl, CM⟩ := LU))
                have BB : Hid (Below w.heap.size w w3) := BW.out.trans ((BA.out.trans (B3.mono BA.out.size)).mono BW.out.size)
                have BC : Hid (Below W.heap.size W w3) := BA.out.trans (B3.mono BA.out.size)
                clear B3 h44 c0 c1 c2 c3 c4 c5 d0 d4 BA
                obtain ⟨M, hM⟩ : ∃ M, tgL (O k) (A k) (B k) (C k) = M := ⟨_, rfl⟩
                have HRS : Hid (rowS O A B C (z : Int) (C z) k = allL (jS z (C z) (O k) k) M) := by show _ = _; rw [← hM]; rfl
                have HML : M.length ≤ 2 := by rw [← hM]; exact tgL_len _ _ _ _
                rw [hM] at CM ⊢
                clear hM
                obtain ⟨m, hm⟩ : ∃ m, M.length = m := ⟨_, rfl⟩
                have HM : Hid (M.length = m) := hm
                have HCM : Hid (∀ i, i < M.length → ∃ g, ad = some ⟨g, 0, none⟩ ∧ World.cell? w3 ⟨g, i, none⟩ = some (.int .i64 (M.getD i 0))) := CM
                rw [hm]
                have hm2 : m ≤ 2 := by rw [← hm]; exact HML
                clear CM hm HML
                obtain ⟨q, hq⟩ : ∃ q, wr.heap.size = q := ⟨_, rfl⟩
                rw [hq] at e0 ⊢
                go_wp2
                go_loop [52] (fun i => ∃ j : Nat, j ≤ m ∧ i = .int .i64 j ∧ Hid (allL (jS z (C z) (O k) k) (M.take j) = true)) (fun i => m - (intOf i).toNat)
                case atStart => exact ⟨0, by omega, rfl, rfl⟩
                case round =>
                  obtain ⟨j, hj, rfl, HB⟩ := hrel
                  by_cases hjm : j < m
                  · have i2 : (j : Int) < (m : Int) := by omega
                    obtain ⟨g, had, ct⟩ := HCM.out j (by rw [HM.out]; exact hjm)
                    subst had
                    have HT : Hid (jS z (C z) (O k) k (M.getD j 0) = true → allL (jS z (C z) (O k) k) (M.take (j + 1)) = true) := fun h => allL_take _ M j (by rw [HM.out]; exact hjm) HB.out h
                    have HS : Hid (jS z (C z) (O k) k (M.getD j 0) = false → J = false) := fun h => by rw [HF.out]; exact allB_stop _ k (by rw [HRS.out]; exact allL_stop _ M j (by rw [HM.out]; exact hjm) h) n hkn
                    generalize M.getD j 0 = t at ct HT HS
                    by_cases kz : (k : Int) = (z : Int)
                    · have ek : ((k : Int) == (z : Int)) = true := by simp [kz]
                      have ek' : ((k : Int) != (z : Int)) = false := by simp [kz]
                      have HQ : Hid (allL (jS z (C z) (O k) k) (M.take (j + 1)) = true) := HT.out ((jS_iff _ _ _ _ _).2 ⟨by omega, by omega⟩)
                      clear HT HS HB
                      go_wp2
                      go_round
                      case rel => exact ⟨j + 1, hjm, by go_num, HQ⟩
                      case measure => simp [intOf]; omega
                    · have ek : ((k : Int) == (z : Int)) = false := by simp [kz]
                      have ek' : ((k : Int) != (z : Int)) = true := by simp [kz]
                      by_cases t1 : (z : Int) < t
                      · by_cases t2 : t < C z
                        · skip
                          have q0 : (z : Int) < t := by omega
                          have q1 : ¬ t ≤ (z : Int) := by omega
                          have q2 : t < C z := by omega
                          have q3 : ¬ C z ≤ t := by omega
                          have HQ : Hid (J = false) := HS.out (Bool.eq_false_iff.2 fun h => by have := (jS_iff _ _ _ _ _).1 h; omega)
                          clear HT HS HB
                          go_wp2
                          go_ret
                          exact ⟨by rw [HQ.out]; rfl, BB.out⟩
                        · skip
                          have q0 : (z : Int) < t := by omega
                          have q1 : ¬ t ≤ (z : Int) := by omega
                          have q2 : C z ≤ t := by omega
                          have q3 : ¬ t < C z := by omega
                          have HQ : Hid (allL (jS z (C z) (O k) k) (M.take (j + 1)) = true) := HT.out ((jS_iff _ _ _ _ _).2 ⟨by omega, by omega⟩)
                          clear HT HS HB
                          go_wp2
                          go_round
                          case rel => exact ⟨j + 1, hjm, by go_num, HQ⟩
                          case measure => simp [intOf]; omega
                      · skip
                        have q0 : t ≤ (z : Int) := by omega
                        have q1 : ¬ (z : Int) < t := by omega
                        have HQ : Hid (allL (jS z (C z) (O k) k) (M.take (j + 1)) = true) := HT.out ((jS_iff _ _ _ _ _).2 ⟨by omega, by omega⟩)
                        clear HT HS HB
                        go_wp2
                        go_round
                        case rel => exact ⟨j + 1, hjm, by go_num, HQ⟩
                        case measure => simp [intOf]; omega
                  · have i2 : ¬ (j : Int) < (m : Int) := by omega
                    have HQ : Hid (allB (rowS O A B C (z : Int) (C z)) (k + 1) = true) := by
                      show (allB (rowS O A B C (z : Int) (C z)) k && rowS O A B C (z : Int) (C z) k) = true
                      rw [HA.out, HRS.out]
                      have := HB.out
                      rw [List.take_of_length_le (by rw [HM.out]; omega)] at this
                      exact this
                    go_wp2
                    go_roundw
                    case rel => exact ⟨k + 1, hkn, by go_num, HQ, BC.out⟩
                    case measure => simp [intOf]; omega
            · skip
              have q0 : (k : Int) ≤ (z : Int) := by omega
              have q1 : ¬ (z : Int) < (k : Int) := by omega
              go_wp2_with (go_at_call 79; refine (h44 _).mono ?_; rintro e w3 ⟨u, rfl, LU, B3⟩; (have e0 := cell_nx d0 B3); (have e4 := cell_nx d4 B3); (obtain ⟨ad, cp, rfl, CM⟩ := LU))
              have BB : Hid (Below w.heap.size w w3) := BW.out.trans ((BA.out.trans (B3.mono BA.out.size)).mono BW.out.size)
              have BC : Hid (Below W.heap.size W w3) := BA.out.trans (B3.mono BA.out.size)
              clear B3 h44 c0 c1 c2 c3 c4 c5 d0 d4 BA
              obtain ⟨M, hM⟩ : ∃ M, tgL (O k) (A k) (B k) (C k) = M := ⟨_, rfl⟩
              have HRS : Hid (rowS O A B C (z : Int) (C z) k = allL (jS z (C z) (O k) k) M) := by show _ = _; rw [← hM]; rfl
              have HML : M.length ≤ 2 := by rw [← hM]; exact tgL_len _ _ _ _
              rw [hM] at CM ⊢
              clear hM
              obtain ⟨m, hm⟩ : ∃ m, M.length = m := ⟨_, rfl⟩
              have HM : Hid (M.length = m) := hm
              have HCM : Hid (∀ i, i < M.length → ∃ g, ad = some ⟨g, 0, none⟩ ∧ World.cell? w3 ⟨g, i, none⟩ = some (.int .i64 (M.getD i 0))) := CM
              rw [hm]
              have hm2 : m ≤ 2 := by rw [← hm]; exact HML
              clear CM hm HML
              obtain ⟨q, hq⟩ : ∃ q, wr.heap.size = q := ⟨_, rfl⟩
              rw [hq] at e0 ⊢
              go_wp2
              go_loop [52] (fun i => ∃ j : Nat, j ≤ m ∧ i = .int .i64 j ∧ Hid (allL (jS z (C z) (O k) k) (M.take j) = true)) (fun i => m - (intOf i).toNat)
              case atStart => exact ⟨0, by omega, rfl, rfl⟩
              case round =>
                obtain ⟨j, hj, rfl, HB⟩ := hrel
                by_cases hjm : j < m
                · have i2 : (j : Int) < (m : Int) := by omega
                  obtain ⟨g, had, ct⟩ := HCM.out j (by rw [HM.out]; exact hjm)
                  subst had
                  have HT : Hid (jS z (C z) (O k) k (M.getD j 0) = true → allL (jS z (C z) (O k) k) (M.take (j + 1)) = true) := fun h => allL_take _ M j (by rw [HM.out]; exact hjm) HB.out h
                  have HS : Hid (jS z (C z) (O k) k (M.getD j 0) = false → J = false) := fun h => by rw [HF.out]; exact allB_stop _ k (by rw [HRS.out]; exact allL_stop _ M j (by rw [HM.out]; exact hjm) h) n hkn
                  generalize M.getD j 0 = t at ct HT HS
                  by_cases kz : (k : Int) = (z : Int)
                  · have ek : ((k : Int) == (z : Int)) = true := by simp [kz]
                    have ek' : ((k : Int) != (z : Int)) = false := by simp [kz]
                    have HQ : Hid (allL (jS z (C z) (O k) k) (M.take (j + 1)) = true) := HT.out ((jS_iff _ _ _ _ _).2 ⟨by omega, by omega⟩)
                    clear HT HS HB
                    go_wp2
                    go_round
                    case rel => exact ⟨j + 1, hjm, by go_num, HQ⟩
                    case measure => simp [intOf]; omega
                  · have ek : ((k : Int) == (z : Int)) = false := by simp [kz]
                    have ek' : ((k : Int) != (z : Int)) = true := by simp [kz]
                    by_cases t1 : (z : Int) < t
                    · by_cases t2 : t < C z
                      · skip
                        have q0 : (z : Int) < t := by omega
                        have q1 : ¬ t ≤ (z : Int) := by omega
                        have q2 : t < C z := by omega
                        have q3 : ¬ C z ≤ t := by omega
                        have HQ : Hid (J = false) := HS.out (Bool.eq_false_iff.2 fun h => by have := (jS_iff _ _ _ _ _).1 h; omega)
                        clear HT HS HB
                        go_wp2
                        go_ret
                        exact ⟨by rw [HQ.out]; rfl, BB.out⟩
                      · skip
                        have q0 : (z : Int) < t := by omega
                        have q1 : ¬ t ≤ (z : Int) := by omega
                        have q2 : C z ≤ t := by omega
                        have q3 : ¬ t < C z := by omega
                        have HQ : Hid (allL (jS z (C z) (O k) k) (M.take (j + 1)) = true) := HT.out ((jS_iff _ _ _ _ _).2 ⟨by omega, by omega⟩)
                        clear HT HS HB
                        go_wp2
                        go_round
                        case rel => exact ⟨j + 1, hjm, by go_num, HQ⟩
                        case measure => simp [intOf]; omega
                    · skip
                      have q0 : t ≤ (z : Int) := by omega
                      have q1 : ¬ (z : Int) < t := by omega
                      have HQ : Hid (allL (jS z (C z) (O k) k) (M.take (j + 1)) = true) := HT.out ((jS_iff _ _ _ _ _).2 ⟨by omega, by omega⟩)
                      clear HT HS HB
                      go_wp2
                      go_round
                      case rel => exact ⟨j + 1, hjm, by go_num, HQ⟩
                      case measure => simp [intOf]; omega
                · have i2 : ¬ (j : Int) < (m : Int) := by omega
                  have HQ : Hid (allB (rowS O A B C (z : Int) (C z)) (k + 1) = true) := by
                    show (allB (rowS O A B C (z : Int) (C z)) k && rowS O A B C (z : Int) (C z) k) = true
                    rw [HA.out, HRS.out]
                    have := HB.out
                    rw [List.take_of_length_le (by rw [HM.out]; omega)] at this
                    exact this
                  go_wp2
                  go_roundw
                  case rel => exact ⟨k + 1, hkn, by go_num, HQ, BC.out⟩
                  case measure => simp [intOf]; omega
          · have i1 : ¬ (k : Int) < (n : Int) := by omega
            obtain rfl : k = n := by omega
            have HQ : Hid (J = true) := by show _ = _; rw [HF.out]; exact HA.out
            go_wp2
            go_ret
            exact ⟨by rw [HQ.out]; rfl, BW.out.trans (BQ.mono BW.out.size)⟩
      · skip
        have q0 : (z : Int) < B z := by omega
        have q1 : ¬ B z ≤ (z : Int) := by omega
        have q2 : (z : Int) < C z := by omega
        have q3 : ¬ C z ≤ (z : Int) := by omega
        have q4 : C z < B z := by omega
        have q5 : ¬ B z ≤ C z := by omega
        have HQ : Hid (J = false) := by show _ = _; rw [HF0.out]; rw [decide_eq_false b3]; simp
        clear HF0 H44 HR
        go_enter Tryd.func56, Tryd.ntmps56
        go_wp2
        go_ret
        exact ⟨by rw [HQ.out]; rfl, (Below.refl _ _).alloc (Nat.le_refl _) _⟩
    · skip
      have q0 : (z : Int) < B z := by omega
      have q1 : ¬ B z ≤ (z : Int) := by omega
      have q2 : C z ≤ (z : Int) := by omega
      have q3 : ¬ (z : Int) < C z := by omega
      have HQ : Hid (J = false) := by show _ = _; rw [HF0.out]; rw [decide_eq_false b2]; simp
      clear HF0 H44 HR
      go_enter Tryd.func56, Tryd.ntmps56
      go_wp2
      go_ret
      exact ⟨by rw [HQ.out]; rfl, (Below.refl _ _).alloc (Nat.le_refl _) _⟩
  · skip
    have q0 : B z ≤ (z : Int) := by omega
    have q1 : ¬ (z : Int) < B z := by omega
    have HQ : Hid (J = false) := by show _ = _; rw [HF0.out]; rw [decide_eq_false b1]; simp
    clear HF0 H44 HR
    go_enter Tryd.func56, Tryd.ntmps56
    go_wp2
    go_ret
    exact ⟨by rw [HQ.out]; rfl, (Below.refl _ _).alloc (Nat.le_refl _) _⟩
set_option maxRecDepth 100000 in
set_option maxHeartbeats 4000000 in
theorem joins12 (n a cap : Nat) (O D A B C X : Nat → Int) (w : World) (R : RowI w a n O D A B C X) (hX : Wds X n) (hn : n ≤ 1048576) : Calls Tryd.prog 32 #[.slice (some ⟨a, 0, none⟩) n cap] w fun e w' => e = .returned (.bool (jfV O D A B C X n)) ∧ Below w.heap.size w w' := by
  have h22 := good9 n a cap O D A B C X w R hX hn
  cases hg : goodC O D A B C X n
  · have HV : Hid (jfV O D A B C X n = false) := by show _ = _; unfold jfV; rw [hg]; rfl
    rw [hg] at h22
    clear hX R hg
    generalize jfV O D A B C X n = J at HV ⊢
    go_enter Tryd.func32, Tryd.ntmps32
    go_wp2_with (go_at_call 10; refine h22.mono ?_; rintro e w1 ⟨rfl, B1⟩)
    go_ret
    exact ⟨by rw [HV.out]; rfl, B1⟩
  · have HV : Hid (jfV O D A B C X n = allB (zerS O A B C n) n) := by show _ = _; unfold jfV; rw [hg]; rfl
    obtain ⟨h6, _, hb⟩ := goodC_bds hg
    have H23 : Hid (∀ k, k < n → ∀ v, RowI v a n O D A B C X → Calls Tryd.prog 56 #[.slice (some ⟨a, 0, none⟩) n cap, .int .i64 (k : Int)] v fun e w' => e = .returned (.bool (fineS O A B C n k)) ∧ Below v.heap.size v w') := fun k hk v r => fine23 n a cap k O D A B C X v r hk h6 ((hb k hk).2 3 (by omega)).1 ((hb k hk).2 3 (by omega)).2
    have HR : Hid (RowI w a n O D A B C X) := R
    rw [hg] at h22
    clear hX R hg hb
    generalize jfV O D A B C X n = J at HV ⊢
    go_enter Tryd.func32, Tryd.ntmps32
    go_wp2_with (go_at_call 10; refine h22.mono ?_; rintro e w1 ⟨rfl, B1⟩)
    clear h22
    go_loopw [10] (fun i wx => ∃ k : Nat, k ≤ n ∧ i = .int .i64 k ∧ Hid (allB (zerS O A B C n) k = true) ∧ Below w.heap.size w wx) (fun i _ => n - (intOf i).toNat)
    case atStart => exact ⟨0, by omega, rfl, rfl, B1⟩
    case round =>
      obtain ⟨k, hk, rfl, HA, BQ⟩ := hrel
      have RK := HR.out.next BQ
      by_cases hkn : k < n
      · have i1 : (k : Int) < (n : Int) := by omega
        have c0 := RK.c0 k hkn
        have c1 := RK.c1 k hkn
        have c2 := RK.c2 k hkn
        have c3 := RK.c3 k hkn
        have c4 := RK.c4 k hkn
        have c5 := RK.c5 k hkn
        have BA : Hid (Below w.heap.size w (wr.alloc (.cells #[.int .i64 (O k), .int .i64 (D k), .int .i64 (A k), .int .i64 (B k), .int .i64 (C k), .int .u32 (X k)] 35))) := BQ.alloc BQ.size _
        have RA : Hid (RowI (wr.alloc (.cells #[.int .i64 (O k), .int .i64 (D k), .int .i64 (A k), .int .i64 (B k), .int .i64 (C k), .int .u32 (X k)] 35)) a n O D A B C X) := HR.out.next BA.out
        have d0 : (wr.alloc (.cells #[.int .i64 (O k), .int .i64 (D k), .int .i64 (A k), .int .i64 (B k), .int .i64 (C k), .int .u32 (X k)] 35)).cell? ⟨wr.heap.size, 0, none⟩ = some (.int .i64 (O k)) := by simp
        have h23 := H23.out k hkn _ RA.out
        have HK : Hid (allB (zerS O A B C n) (k + 1) = (allB (zerS O A B C n) k && (!(O k == 9) || fineS O A B C n k))) := rfl
        have HS : Hid ((!(O k == 9) || fineS O A B C n k) = false → allB (zerS O A B C n) n = false) := fun h => allB_stop _ k h n hkn
        generalize fineS O A B C n k = F at HK HS h23
        clear RK B1
        by_cases h9 : O k = 9
        · have e9 : (O k == 9) = true := by simp [h9]
          rw [e9] at HK HS
          cases F
          · have HQ : Hid (J = false) := by show _ = _; rw [HV.out]; exact HS.out rfl
            clear HK HS h9
            go_wp2_with (go_at_call 56; refine h23.mono ?_; rintro e w2 ⟨rfl, B2⟩)
            go_ret
            exact ⟨by rw [HQ.out]; rfl, BA.out.trans (B2.mono BA.out.size)⟩
          · have HQ : Hid (allB (zerS O A B C n) (k + 1) = true) := by show _ = _; rw [HK.out, HA.out]; rfl
            clear HK HS h9
            go_wp2_with (go_at_call 56; refine h23.mono ?_; rintro e w2 ⟨rfl, B2⟩)
            go_roundw
            case rel => exact ⟨k + 1, hkn, by go_num, HQ, BA.out.trans (B2.mono BA.out.size)⟩
            case measure => simp [intOf]; omega
        · have e9 : (O k == 9) = false := by simp [h9]
          rw [e9] at HK HS
          have HQ : Hid (allB (zerS O A B C n) (k + 1) = true) := by show _ = _; rw [HK.out, HA.out]; rfl
          clear HK HS h9 h23
          go_wp2
          go_roundw
          case rel => exact ⟨k + 1, hkn, by go_num, HQ, BA.out⟩
          case measure => simp [intOf]; omega
      · have i1 : ¬ (k : Int) < (n : Int) := by omega
        obtain rfl : k = n := by omega
        have HQ : Hid (J = true) := by show _ = _; rw [HV.out]; exact HA.out
        go_wp2
        go_ret
        exact ⟨by rw [HQ.out]; rfl, BQ⟩
end Go.Proofs.YtablacgmedkgjaaDoor
