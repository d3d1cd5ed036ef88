/- The program's JoinsFine. -/
import Derived.Test.YtablacgmedkgjaaDoorJfm
namespace Go.Proofs.YtablacgmedkgjaaDoor
open Go.ChangeShapes Go.WideShapes Go.ChangeAt Go.RowKit
set_option linter.unusedVariables false
set_option maxRecDepth 100000 in
set_option maxHeartbeats 2000000 in
theorem jump48 (z j k t : Int) (w : World) (j0 : 0 ≤ j) (j1 : j < 4294967296) : Calls Tryd.prog 81 #[.int .i64 z, .int .i64 j, .int .i64 k, .int .i64 t] w fun e w' => e = .returned (.bool (jI z j k t)) ∧ w' = w := by
  have w1 : wrap64 (j - 1) = j - 1 := by unfold wrap64; omega
  by_cases a1 : k < z
  · skip
    by_cases b1 : t ≤ z
    · skip
      have q0 : k < z := by omega
      have q1 : ¬ z ≤ k := by omega
      have q2 : t ≤ z := by omega
      have q3 : ¬ z < t := by omega
      have HQ : Hid (jI z j k t = true) := (jI_iff z j k t).2 ⟨by omega, by omega⟩
      clear j0 j1 a1 b1
      generalize jI z j k t = J at HQ ⊢
      go_enter Tryd.func81, Tryd.ntmps81
      go_wp2
      go_ret
      exact ⟨by rw [HQ.out]; rfl, rfl⟩
    by_cases b2 : j ≤ t
    · skip
      have q0 : k < z := by omega
      have q1 : ¬ z ≤ k := by omega
      have q2 : z < t := by omega
      have q3 : ¬ t ≤ z := by omega
      have q4 : j ≤ t := by omega
      have q5 : ¬ t < j := by omega
      have HQ : Hid (jI z j k t = true) := (jI_iff z j k t).2 ⟨by omega, by omega⟩
      clear j0 j1 a1 b1 b2
      generalize jI z j k t = J at HQ ⊢
      go_enter Tryd.func81, Tryd.ntmps81
      go_wp2
      go_ret
      exact ⟨by rw [HQ.out]; rfl, rfl⟩
    have q0 : k < z := by omega
    have q1 : ¬ z ≤ k := by omega
    have q2 : z < t := by omega
    have q3 : ¬ t ≤ z := by omega
    have q4 : t < j := by omega
    have q5 : ¬ j ≤ t := by omega
    have HQ : Hid (jI z j k t = false) := Bool.eq_false_iff.2 fun h => by have := (jI_iff z j k t).1 h; omega
    clear j0 j1 a1 b1 b2
    generalize jI z j k t = J at HQ ⊢
    go_enter Tryd.func81, Tryd.ntmps81
    go_wp2
    go_ret
    exact ⟨by rw [HQ.out]; rfl, rfl⟩
  by_cases a2 : j ≤ k
  · skip
    by_cases b1 : t ≤ z
    · skip
      have q0 : z ≤ k := by omega
      have q1 : ¬ k < z := by omega
      have q2 : j ≤ k := by omega
      have q3 : ¬ k < j := by omega
      have q4 : t ≤ z := by omega
      have q5 : ¬ z < t := by omega
      have HQ : Hid (jI z j k t = true) := (jI_iff z j k t).2 ⟨by omega, by omega⟩
      clear j0 j1 a1 a2 b1
      generalize jI z j k t = J at HQ ⊢
      go_enter Tryd.func81, Tryd.ntmps81
      go_wp2
      go_ret
      exact ⟨by rw [HQ.out]; rfl, rfl⟩
    by_cases b2 : j ≤ t
    · skip
      have q0 : z ≤ k := by omega
      have q1 : ¬ k < z := by omega
      have q2 : j ≤ k := by omega
      have q3 : ¬ k < j := by omega
      have q4 : z < t := by omega
      have q5 : ¬ t ≤ z := by omega
      have q6 : j ≤ t := by omega
      have q7 : ¬ t < j := by omega
      have HQ : Hid (jI z j k t = true) := (jI_iff z j k t).2 ⟨by omega, by omega⟩
      clear j0 j1 a1 a2 b1 b2
      generalize jI z j k t = J at HQ ⊢
      go_enter Tryd.func81, Tryd.ntmps81
      go_wp2
      go_ret
      exact ⟨by rw [HQ.out]; rfl, rfl⟩
    have q0 : z ≤ k := by omega
    have q1 : ¬ k < z := by omega
    have q2 : j ≤ k := by omega
    have q3 : ¬ k < j := by omega
    have q4 : z < t := by omega
    have q5 : ¬ t ≤ z := by omega
    have q6 : t < j := by omega
    have q7 : ¬ j ≤ t := by omega
    have HQ : Hid (jI z j k t = false) := Bool.eq_false_iff.2 fun h => by have := (jI_iff z j k t).1 h; omega
    clear j0 j1 a1 a2 b1 b2
    generalize jI z j k t = J at HQ ⊢
    go_enter Tryd.func81, Tryd.ntmps81
    go_wp2
    go_ret
    exact ⟨by rw [HQ.out]; rfl, rfl⟩
  by_cases b1 : t ≤ j
  · skip
    by_cases b2 : z < t
    · skip
      have q0 : z ≤ k := by omega
      have q1 : ¬ k < z := by omega
      have q2 : k < j := by omega
      have q3 : ¬ j ≤ k := by omega
      have q4 : t ≤ j := by omega
      have q5 : ¬ j < t := by omega
      have q6 : z < t := by omega
      have q7 : ¬ t ≤ z := by omega
      have HQ : Hid (jI z j k t = true) := (jI_iff z j k t).2 ⟨by omega, by omega⟩
      clear j0 j1 a1 a2 b1 b2
      generalize jI z j k t = J at HQ ⊢
      go_enter Tryd.func81, Tryd.ntmps81
      go_wp2
      go_ret
      exact ⟨by rw [HQ.out]; rfl, rfl⟩
    by_cases b3 : k = j - 1
    · have e3 : (k == j - 1) = true := by simp; omega
      have q0 : z ≤ k := by omega
      have q1 : ¬ k < z := by omega
      have q2 : k < j := by omega
      have q3 : ¬ j ≤ k := by omega
      have q4 : t ≤ j := by omega
      have q5 : ¬ j < t := by omega
      have q6 : t ≤ z := by omega
      have q7 : ¬ z < t := by omega
      have HQ : Hid (jI z j k t = true) := (jI_iff z j k t).2 ⟨by omega, by omega⟩
      clear j0 j1 a1 a2 b1 b2 b3
      generalize jI z j k t = J at HQ ⊢
      go_enter Tryd.func81, Tryd.ntmps81
      go_wp2
      go_ret
      exact ⟨by rw [HQ.out]; rfl, rfl⟩
    have e3 : (k == j - 1) = false := by simp; omega
    have q0 : z ≤ k := by omega
    have q1 : ¬ k < z := by omega
    have q2 : k < j := by omega
    have q3 : ¬ j ≤ k := by omega
    have q4 : t ≤ j := by omega
    have q5 : ¬ j < t := by omega
    have q6 : t ≤ z := by omega
    have q7 : ¬ z < t := by omega
    have HQ : Hid (jI z j k t = false) := Bool.eq_false_iff.2 fun h => by have := (jI_iff z j k t).1 h; omega
    clear j0 j1 a1 a2 b1 b2 b3
    generalize jI z j k t = J at HQ ⊢
    go_enter Tryd.func81, Tryd.ntmps81
    go_wp2
    go_ret
    exact ⟨by rw [HQ.out]; rfl, rfl⟩
  have q0 : z ≤ k := by omega
  have q1 : ¬ k < z := by omega
  have q2 : k < j := by omega
  have q3 : ¬ j ≤ k := by omega
  have q4 : j < t := by omega
  have q5 : ¬ t ≤ j := by omega
  have HQ : Hid (jI z j k t = false) := Bool.eq_false_iff.2 fun h => by have := (jI_iff z j k t).1 h; omega
  clear j0 j1 a1 a2 b1
  generalize jI z j k t = J at HQ ⊢
  go_enter Tryd.func81, Tryd.ntmps81
  go_wp2
  go_ret
  exact ⟨by rw [HQ.out]; rfl, rfl⟩
theorem isnum47 (o : Int) (f : Nat) (hf : f < 5) (v : World) : Calls Tryd.prog 80 #[.int .i64 o, .int .i64 (f : Int)] v fun e w' => e = .returned (.bool (isN o f)) ∧ w' = v := by
  rcases (by omega : f = 0 ∨ f = 1 ∨ f = 2 ∨ f = 3 ∨ f = 4) with rfl | rfl | rfl | rfl | rfl
  · exact isnum72_0 o v
  · exact isnum72_1 o v
  · exact isnum72_2 o v
  · exact isnum72_3 o v
  · exact isnum72_4 o v
set_option maxRecDepth 100000 in
set_option maxHeartbeats 4000000 in
theorem fine25 (n a cap z : Nat) (O D A B C X : Nat → Int) (w : World) (R : RowI w a n O D A B C X) (hX : Wds X n) (hz : z < n) (hn : n ≤ 600) (j0 : 0 ≤ C z) (j1 : C z < 4294967296) : Calls Tryd.prog 57 #[.slice (some ⟨a, 0, none⟩) n cap, .int .i64 (z : Int)] w fun e w' => e = .returned (.bool (fineI O D A B C X n z)) ∧ Below w.heap.size w w' := by
  have H34 : Hid (∀ k, k < n → ∀ v, Calls Tryd.prog 49 #[.agg #[.int .i64 (O k), .int .i64 (D k), .int .i64 (A k), .int .i64 (B k), .int .i64 (C k), .int .u32 (X k)]] v fun e w' => e = .returned (.agg #[.int .i64 (D k), .int .i64 (A k), .int .i64 (B k), .int .i64 (C k), .int .i64 (X k)]) ∧ Below v.heap.size v w') := fun k hk v => vals44 _ _ _ _ _ _ v (hX k hk).1 (hX k hk).2
  have H47 : Hid (∀ k f, f < 5 → ∀ v, Calls Tryd.prog 80 #[.int .i64 (O k), .int .i64 ((f : Nat) : Int)] v fun e w' => e = .returned (.bool (isN (O k) f)) ∧ w' = v) := fun k f hf v => isnum47 (O k) f hf v
  have H48 : Hid (∀ k t v, Calls Tryd.prog 81 #[.int .i64 (z : Int), .int .i64 (C z), .int .i64 k, .int .i64 t] v fun e w' => e = .returned (.bool (jI z (C z) k t)) ∧ w' = v) := fun k t v => jump48 z (C z) k t v j0 j1
  have HI : Hid (∀ k f, f < 5 → ∀ v, (Instr.index 61 (.agg #[.int .i64 (D k), .int .i64 (A k), .int .i64 (B k), .int .i64 (C k), .int .i64 (X k)]) (.int .i64 ((f : Nat) : Int))).run Tryd.prog v = .ok (.int .i64 (val (D k) (A k) (B k) (C k) (X k) f)) v) := fun k f hf v => ixiAll (D k) (A k) (B k) (C k) (X k) f hf v
  have HR : Hid (RowI w a n O D A B C X) := R
  have cz3 := R.c3 z hz
  have cz4 := R.c4 z hz
  have iz : (z : Int) < (n : Int) := by omega
  clear hX j0 j1
  by_cases b1 : B z ≤ (z : Int)
  · have HQ : Hid (fineI O D A B C X n z = false) := by show _ = _; unfold fineI; rw [decide_eq_false (show ¬ (z : Int) < B z by omega)]; rfl
    have q0 : ¬ (z : Int) < B z := by omega
    generalize fineI O D A B C X n z = J at HQ ⊢
    clear H34 H47 H48 HI HR R
    go_enter Tryd.func57, Tryd.ntmps57
    go_wp2
    go_ret
    exact ⟨by rw [HQ.out]; rfl, Below.refl _ _⟩
  have b1' : (z : Int) < B z := by omega
  by_cases b2 : C z < B z
  · have HQ : Hid (fineI O D A B C X n z = false) := by show _ = _; unfold fineI; rw [decide_eq_false (show ¬ B z ≤ C z by omega)]; simp
    have q0 : ¬ B z ≤ C z := by omega
    have q1 : B z > C z := by omega
    generalize fineI O D A B C X n z = J at HQ ⊢
    clear H34 H47 H48 HI HR R
    go_enter Tryd.func57, Tryd.ntmps57
    go_wp2
    go_ret
    exact ⟨by rw [HQ.out]; rfl, Below.refl _ _⟩
  have b2' : B z ≤ C z := by omega
  have HF : Hid (fineI O D A B C X n z = allB (rowJ O D A B C X (z : Int) (C z)) n) := by show _ = _; unfold fineI; rw [decide_eq_true b1', decide_eq_true b2']; rfl
  generalize fineI O D A B C X n z = J at HF ⊢
  clear R
  go_enter Tryd.func57, Tryd.ntmps57
  go_wp2
  clear cz3 cz4 b1 b1' b2 b2'
  go_loopw [33] (fun i wx => ∃ k : Nat, k ≤ n ∧ i = .int .i64 k ∧ Hid (allB (rowJ O D A B C X (z : Int) (C z)) k = true) ∧ Below w.heap.size w wx) (fun i _ => n - (intOf i).toNat)
  case atStart => exact ⟨0, by omega, rfl, rfl, Below.refl _ _⟩
  case round =>
    obtain ⟨k, hk, rfl, HA, BQ⟩ := hrel
    have RK := HR.out.next BQ
    by_cases hkn : k < n
    · have i1 : (k : Int) < (n : Int) := by omega
      have c0 := RK.c0 k hkn
      have c1 := RK.c1 k hkn
      have c2 := RK.c2 k hkn
      have c3 := RK.c3 k hkn
      have c4 := RK.c4 k hkn
      have c5 := RK.c5 k hkn
      have h34 := H34.out k hkn
      have h47 := H47.out k
      have h48 := H48.out (k : Int)
      have hix := HI.out k
      have BA : Hid (Below w.heap.size w (wr.alloc (.cells #[.int .i64 (O k), .int .i64 (D k), .int .i64 (A k), .int .i64 (B k), .int .i64 (C k), .int .u32 (X k)] 35))) := BQ.alloc BQ.size _
      have d0 : (wr.alloc (.cells #[.int .i64 (O k), .int .i64 (D k), .int .i64 (A k), .int .i64 (B k), .int .i64 (C k), .int .u32 (X k)] 35)).cell? ⟨wr.heap.size, 0, none⟩ = some (.int .i64 (O k)) := by simp
      have HH47 : Hid (∀ f, f < 5 → ∀ v, Calls Tryd.prog 80 #[.int .i64 (O k), .int .i64 ((f : Nat) : Int)] v fun e w' => e = .returned (.bool (isN (O k) f)) ∧ w' = v) := h47
      have HH48 : Hid (∀ t v, Calls Tryd.prog 81 #[.int .i64 (z : Int), .int .i64 (C z), .int .i64 (k : Int), .int .i64 t] v fun e w' => e = .returned (.bool (jI z (C z) k t)) ∧ w' = v) := h48
      have HHI : Hid (∀ f, f < 5 → ∀ v, (Instr.index 61 (.agg #[.int .i64 (D k), .int .i64 (A k), .int .i64 (B k), .int .i64 (C k), .int .i64 (X k)]) (.int .i64 ((f : Nat) : Int))).run Tryd.prog v = .ok (.int .i64 (val (D k) (A k) (B k) (C k) (X k) f)) v) := hix
      clear RK BQ h47 h48 hix
      go_wp2_with (go_at_call 49; refine (h34 _).mono ?_; rintro e w2 ⟨rfl, B2⟩; (have e0 := cell_nx d0 B2))
      have BB : Hid (Below w.heap.size w w2) := BA.out.trans (B2.mono BA.out.size)
      clear B2 h34 c0 c1 c2 c3 c4 c5 d0 BA
      obtain ⟨q, hq⟩ : ∃ q, wr.heap.size = q := ⟨_, rfl⟩
      rw [hq] at e0 ⊢
      go_loop [40] (fun i => ∃ f : Nat, f ≤ 5 ∧ i = .int .i64 f ∧ Hid (allB (fldJ (z : Int) (C z) (k : Int) (O k) (D k) (A k) (B k) (C k) (X k)) f = true)) (fun i => 5 - (intOf i).toNat)
      case atStart => exact ⟨0, by omega, rfl, rfl⟩
      case round =>
        obtain ⟨f, hf, rfl, HB⟩ := hrel
        by_cases hf5 : f < 5
        · have i2 : (f : Int) < 5 := by omega
          have h47 := HH47.out f hf5
          have hix := HHI.out f hf5
          have HK : Hid (allB (fldJ (z : Int) (C z) (k : Int) (O k) (D k) (A k) (B k) (C k) (X k)) (f + 1) = (allB (fldJ (z : Int) (C z) (k : Int) (O k) (D k) (A k) (B k) (C k) (X k)) f && (!isN (O k) f || jI z (C z) k (val (D k) (A k) (B k) (C k) (X k) f)))) := rfl
          have h48 := HH48.out (val (D k) (A k) (B k) (C k) (X k) f)
          have HS : Hid ((!isN (O k) f || jI z (C z) k (val (D k) (A k) (B k) (C k) (X k) f)) = false → allB (rowJ O D A B C X (z : Int) (C z)) n = false) := fun h => allB_stop _ k (show rowJ O D A B C X (z : Int) (C z) k = false from allB_stop _ f h 5 hf5) n hkn
          generalize val (D k) (A k) (B k) (C k) (X k) f = V at HK h48 hix HS
          generalize jI z (C z) k V = JJ at HK h48 HS
          generalize isN (O k) f = NN at HK h47 HS
          cases NN
          · have HQ : Hid (allB (fldJ (z : Int) (C z) (k : Int) (O k) (D k) (A k) (B k) (C k) (X k)) (f + 1) = true) := by show _ = _; rw [HK.out, HB.out]; rfl
            clear HK h48 HS
            go_wp2_with (go_at_call 80; refine (h47 _).mono ?_; rintro e w3 ⟨rfl, hw⟩; subst w3)
            go_round
            case rel => exact ⟨f + 1, by omega, by go_num, HQ⟩
            case measure => simp [intOf]; omega
          · cases JJ
            · have HQ : Hid (J = false) := by show _ = _; rw [HF.out]; exact HS.out rfl
              clear HK HS
              go_wp2_with (first | (go_at_call 80; refine (h47 _).mono ?_; rintro e w3 ⟨rfl, hw⟩; subst w3) | (go_at_call 81; refine (h48 _).mono ?_; rintro e w3 ⟨rfl, hw⟩; subst w3))
              go_ret
              exact ⟨by rw [HQ.out]; rfl, BB.out⟩
            · have HQ : Hid (allB (fldJ (z : Int) (C z) (k : Int) (O k) (D k) (A k) (B k) (C k) (X k)) (f + 1) = true) := by show _ = _; rw [HK.out, HB.out]; rfl
              clear HK HS
              go_wp2_with (first | (go_at_call 80; refine (h47 _).mono ?_; rintro e w3 ⟨rfl, hw⟩; subst w3) | (go_at_call 81; refine (h48 _).mono ?_; rintro e w3 ⟨rfl, hw⟩; subst w3))
              go_round
              case rel => exact ⟨f + 1, by omega, by go_num, HQ⟩
              case measure => simp [intOf]; omega
        · obtain rfl : f = 5 := by omega
          have HQ : Hid (allB (rowJ O D A B C X (z : Int) (C z)) (k + 1) = true) := by
            show (allB (rowJ O D A B C X (z : Int) (C z)) k && rowJ O D A B C X (z : Int) (C z) k) = true
            rw [HA.out]; exact HB.out
          go_wp2
          go_roundw
          case rel => exact ⟨k + 1, hkn, by go_num, HQ, BB.out⟩
          case measure => simp [intOf]; omega
    · have i1 : ¬ (k : Int) < (n : Int) := by omega
      obtain rfl : k = n := by omega
      have HQ : Hid (J = true) := by show _ = _; rw [HF.out]; exact HA.out
      go_wp2
      go_ret
      exact ⟨by rw [HQ.out]; rfl, BQ⟩
set_option maxRecDepth 100000 in
set_option maxHeartbeats 4000000 in
theorem joins14 (n a cap : Nat) (O D A B C X : Nat → Int) (w : World) (G : Forms w) (R : RowI w a n O D A B C X) (hX : Wds X n) (hn : n ≤ 1048576) : Calls Tryd.prog 33 #[.slice (some ⟨a, 0, none⟩) n cap] w fun e w' => e = .returned (.bool (jfV O D A B C X n)) ∧ Below w.heap.size w w' := by
  have h24 := good11 n a cap O D A B C X w G R hX hn
  cases hg : goodC O D A B C X n
  · have HV : Hid (jfV O D A B C X n = false) := by show _ = _; unfold jfV; rw [hg]; rfl
    rw [hg] at h24
    clear hX R hg G
    generalize jfV O D A B C X n = J at HV ⊢
    go_enter Tryd.func33, Tryd.ntmps33
    go_wp2_with (go_at_call 12; refine h24.mono ?_; rintro e w1 ⟨rfl, B1⟩)
    go_ret
    exact ⟨by rw [HV.out]; rfl, B1⟩
  · have HV : Hid (jfV O D A B C X n = allB (zerI O D A B C X n) n) := by show _ = _; unfold jfV; rw [hg, joins_same]; rfl
    obtain ⟨h6, _, hb⟩ := goodC_bds hg
    have H25 : Hid (∀ k, k < n → ∀ v, RowI v a n O D A B C X → Calls Tryd.prog 57 #[.slice (some ⟨a, 0, none⟩) n cap, .int .i64 (k : Int)] v fun e w' => e = .returned (.bool (fineI O D A B C X n k)) ∧ Below v.heap.size v w') := fun k hk v r => fine25 n a cap k O D A B C X v r hX hk h6 ((hb k hk).2 3 (by omega)).1 ((hb k hk).2 3 (by omega)).2
    have HR : Hid (RowI w a n O D A B C X) := R
    rw [hg] at h24
    clear hX R hg hb G
    generalize jfV O D A B C X n = J at HV ⊢
    go_enter Tryd.func33, Tryd.ntmps33
    go_wp2_with (go_at_call 12; refine h24.mono ?_; rintro e w1 ⟨rfl, B1⟩)
    clear h24
    go_loopw [10] (fun i wx => ∃ k : Nat, k ≤ n ∧ i = .int .i64 k ∧ Hid (allB (zerI O D A B C X n) k = true) ∧ Below w.heap.size w wx) (fun i _ => n - (intOf i).toNat)
    case atStart => exact ⟨0, by omega, rfl, rfl, B1⟩
    case round =>
      obtain ⟨k, hk, rfl, HA, BQ⟩ := hrel
      have RK := HR.out.next BQ
      by_cases hkn : k < n
      · have i1 : (k : Int) < (n : Int) := by omega
        have c0 := RK.c0 k hkn
        have c1 := RK.c1 k hkn
        have c2 := RK.c2 k hkn
        have c3 := RK.c3 k hkn
        have c4 := RK.c4 k hkn
        have c5 := RK.c5 k hkn
        have BA : Hid (Below w.heap.size w (wr.alloc (.cells #[.int .i64 (O k), .int .i64 (D k), .int .i64 (A k), .int .i64 (B k), .int .i64 (C k), .int .u32 (X k)] 35))) := BQ.alloc BQ.size _
        have RA : Hid (RowI (wr.alloc (.cells #[.int .i64 (O k), .int .i64 (D k), .int .i64 (A k), .int .i64 (B k), .int .i64 (C k), .int .u32 (X k)] 35)) a n O D A B C X) := HR.out.next BA.out
        have d0 : (wr.alloc (.cells #[.int .i64 (O k), .int .i64 (D k), .int .i64 (A k), .int .i64 (B k), .int .i64 (C k), .int .u32 (X k)] 35)).cell? ⟨wr.heap.size, 0, none⟩ = some (.int .i64 (O k)) := by simp
        have h25 := H25.out k hkn _ RA.out
        have HK : Hid (allB (zerI O D A B C X n) (k + 1) = (allB (zerI O D A B C X n) k && (!(O k == 9) || fineI O D A B C X n k))) := rfl
        have HS : Hid ((!(O k == 9) || fineI O D A B C X n k) = false → allB (zerI O D A B C X n) n = false) := fun h => allB_stop _ k h n hkn
        generalize fineI O D A B C X n k = F at HK HS h25
        clear RK B1
        by_cases h9 : O k = 9
        · have e9 : (O k == 9) = true := by simp [h9]
          rw [e9] at HK HS
          cases F
          · have HQ : Hid (J = false) := by show _ = _; rw [HV.out]; exact HS.out rfl
            clear HK HS h9
            go_wp2_with (go_at_call 57; refine h25.mono ?_; rintro e w2 ⟨rfl, B2⟩)
            go_ret
            exact ⟨by rw [HQ.out]; rfl, BA.out.trans (B2.mono BA.out.size)⟩
          · have HQ : Hid (allB (zerI O D A B C X n) (k + 1) = true) := by show _ = _; rw [HK.out, HA.out]; rfl
            clear HK HS h9
            go_wp2_with (go_at_call 57; refine h25.mono ?_; rintro e w2 ⟨rfl, B2⟩)
            go_roundw
            case rel => exact ⟨k + 1, hkn, by go_num, HQ, BA.out.trans (B2.mono BA.out.size)⟩
            case measure => simp [intOf]; omega
        · have e9 : (O k == 9) = false := by simp [h9]
          rw [e9] at HK HS
          have HQ : Hid (allB (zerI O D A B C X n) (k + 1) = true) := by show _ = _; rw [HK.out, HA.out]; rfl
          clear HK HS h9 h25
          go_wp2
          go_roundw
          case rel => exact ⟨k + 1, hkn, by go_num, HQ, BA.out⟩
          case measure => simp [intOf]; omega
      · have i1 : ¬ (k : Int) < (n : Int) := by omega
        obtain rfl : k = n := by omega
        have HQ : Hid (J = true) := by show _ = _; rw [HV.out]; exact HA.out
        go_wp2
        go_ret
        exact ⟨by rw [HQ.out]; rfl, BQ⟩
end Go.Proofs.YtablacgmedkgjaaDoor
