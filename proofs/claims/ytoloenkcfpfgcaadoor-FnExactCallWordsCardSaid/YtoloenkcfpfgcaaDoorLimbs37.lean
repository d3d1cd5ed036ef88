/- Contracts of the model's l1Sign, l1Keep and l1Told where the rounding is given, for both forms. -/
import Derived.Test.YtoloenkcfpfgcaaDoorLimbs34
import Derived.Test.YtoloenkcfpfgcaaDoorRound
namespace Go.Proofs.YtoloenkcfpfgcaaDoor
open Go.ChangeShapes Go.WideShapes Go.ChangeAt Go.RowKit
set_option linter.unusedVariables false
theorem num_sign {w : World} {K : Nat} {V : Int} {g : Bool} {p : Option Addr} {l c : Nat} {P : Int} (H : Num w K (.agg #[.int .i64 V, .bool g, .slice p l c]) P) :
    Calls Tryd.prog 58 #[.agg #[.int .i64 V, .bool g, .slice p l c]] w fun e w' => e = .returned (.int .i64 (cmpZ P 0)) ∧ Below w.heap.size w w' := by
  have H1 := H.next (al w (.cells #[.int .i64 V, .bool g, .slice p l c] 50))
  have HC : Hid (Calls Tryd.prog 42 #[.agg #[.int .i64 V, .bool g, .slice p l c], .agg #[.int .i64 0, .bool false, .slice none 0 0]] (w.alloc (.cells #[.int .i64 V, .bool g, .slice p l c] 50)) fun r w' => r = .returned (.int .i64 (cmpZ P 0)) ∧ Below (w.alloc (.cells #[.int .i64 V, .bool g, .slice p l c] 50)).heap.size (w.alloc (.cells #[.int .i64 V, .bool g, .slice p l c] 50)) w') := num_cmp0 H1
  clear H1
  go_enter Tryd.func58, Tryd.ntmps58
  go_wp2_with (go_at_call 42; refine (Hid.out HC).mono ?_; rintro e w' ⟨rfl, hb⟩)
  go_ret
  exact ⟨rfl, (al _ _).trans (hb.mono (by simp))⟩
set_option maxHeartbeats 1000000 in
theorem keep77 (mode : Int) (m0 : 0 ≤ mode) (m4 : mode ≤ 4) (neg : Bool) (w : World) :
    Calls Tryd.prog 60 #[.int .i64 mode, .bool neg] w fun e w' => e = .returned (.bool (keepB mode neg)) ∧ w' = w := by
  rcases (by omega : mode = 0 ∨ mode = 1 ∨ mode = 2 ∨ mode = 3 ∨ mode = 4) with rfl | rfl | rfl | rfl | rfl <;> cases neg
  all_goals
    go_enter Tryd.func60, Tryd.ntmps60
    go_wp2
    go_ret
    exact ⟨rfl, rfl⟩

set_option maxHeartbeats 4000000 in
theorem told_core_w {w : World} {K : Nat} {VP VQ : Int} {gP gQ : Bool} {pP pQ : Option Addr} {lP cP lQ cQ : Nat} {P : Int} (HP : Num w K (.agg #[.int .i64 VP, .bool gP, .slice pP lP cP]) P) (E mode : Int) (m0 : 0 ≤ mode) (m4 : mode ≤ 4) (neg : Bool) (hneg : decide (P < 0) = neg) (mm ee : Int) (a0 : 0 ≤ mm) (a1 : mm < 16777216) (b0 : -149 ≤ ee) (b1 : ee ≤ 1000)
    (hR : ∀ v : World, Below w.heap.size w v → Calls Tryd.prog 59 #[.agg #[.int .i64 VP, .bool gP, .slice pP lP cP, .int .i64 VQ, .bool gQ, .slice pQ lQ cQ, .int .i64 E], .agg #[.int .i64 24, .int .i64 (-149), .int .i64 104], .int .i64 mode, .bool neg] v fun e w' => e = .returned (.tuple #[.int .i64 mm, .int .i64 ee]) ∧ Below v.heap.size v w') :
    Calls Tryd.prog 35 #[.agg #[.int .i64 VP, .bool gP, .slice pP lP cP, .int .i64 VQ, .bool gQ, .slice pQ lQ cQ, .int .i64 E], .agg #[.int .i64 24, .int .i64 (-149), .int .i64 104], .int .i64 mode] w fun e w' => e = .returned (.int .i64 (if 104 < ee then (if keepB mode neg then sgn_w neg 2139095039 else sgn_w neg 2139095040) else if mm < 8388608 then sgn_w neg mm else sgn_w neg ((ee - (-149) + 1) * 8388608 + mm - 8388608))) ∧ Below w.heap.size w w' := by
  obtain ⟨cS, hcS⟩ : ∃ cS, cmpZ P 0 = cS := ⟨_, rfl⟩
  have hcs : decide (cS < 0) = neg := by
    rw [← hneg, ← hcS]; unfold cmpZ
    by_cases h : P < 0
    · simp [h]
    · rw [if_neg h]; split <;> simp [h]
  have HS : Hid (cmpZ P 0 = cS) := hcS
  obtain ⟨kp, hkp⟩ : ∃ kp, keepB mode neg = kp := ⟨_, rfl⟩
  have HK : Hid (∀ v : World, Calls Tryd.prog 60 #[.int .i64 mode, .bool neg] v fun e w' => e = .returned (.bool kp) ∧ w' = v) := fun v => by rw [← hkp]; exact keep77 mode m0 m4 neg v
  have HR : Hid (∀ v : World, Below w.heap.size w v → Calls Tryd.prog 59 #[.agg #[.int .i64 VP, .bool gP, .slice pP lP cP, .int .i64 VQ, .bool gQ, .slice pQ lQ cQ, .int .i64 E], .agg #[.int .i64 24, .int .i64 (-149), .int .i64 104], .int .i64 mode, .bool neg] v fun e w' => e = .returned (.tuple #[.int .i64 mm, .int .i64 ee]) ∧ Below v.heap.size v w') := hR
  rw [hkp]
  obtain ⟨R, hRR⟩ : ∃ R : Int, (if 104 < ee then (if kp then sgn_w neg 2139095039 else sgn_w neg 2139095040) else if mm < 8388608 then sgn_w neg mm else sgn_w neg ((ee - (-149) + 1) * 8388608 + mm - 8388608)) = R := ⟨_, rfl⟩
  rw [hRR]
  have HRR : Hid ((if 104 < ee then (if kp then sgn_w neg 2139095039 else sgn_w neg 2139095040) else if mm < 8388608 then sgn_w neg mm else sgn_w neg ((ee - (-149) + 1) * 8388608 + mm - 8388608)) = R) := hRR
  clear hcS hkp hR hneg m0 m4 hRR
  cases neg
  all_goals
    first | (have hcn : ¬ cS < 0 := by simpa using hcs) | (have hcn : cS < 0 := by simpa using hcs)
    by_cases q1 : 104 < ee
    · cases kp
      all_goals
        go_enter Tryd.func35, Tryd.ntmps35
        go_wp2_with (first | (go_at_call 58; refine (num_sign (HP.next (by repeat (first | (with_reducible refine Below.alloc ?_ (by first | omega | (simp; try omega)) _) | (with_reducible exact Below.refl _ _))))).mono ?_; rw [HS.out]; rintro e w1 ⟨rfl, hb1⟩; (have X1 := (hb1.block w.heap.size (by simp; omega)).trans ((Below.heap_alloc _ _ _ (by simp)).trans (heap_alloc_new _ _))); (have F1 := (hb1.block (w.heap.size + 1) (by simp)).trans (heap_alloc_at (by simp))); have hz1 := hb1.size; (try simp at hz1); (have hw1 : Below w.heap.size w w1 := ((al _ _).trans ((al _ _).mono (by simp))).trans (hb1.mono (by simp; omega))); (obtain ⟨⟨x0, x1, x2, x3, x4, x5, x6⟩, _⟩ := blk7 X1); (obtain ⟨⟨f0, f1, f2⟩, _⟩ := blk3 F1)) | (go_at_call 59; refine ((Hid.out HR) w1 hw1).mono ?_; rintro e w2 ⟨rfl, hb2⟩; (obtain ⟨⟨g0, g1, g2⟩, _⟩ := blk3 ((hb2.block (w.heap.size + 1) (by omega)).trans F1))) | (go_at_call 60; refine ((Hid.out HK) w2).mono ?_; rintro e w3 ⟨rfl, hw3⟩; subst w3))
        go_ret
        exact ⟨congrArg Ending.returned (congrArg (Value.int IntKind.i64) (by rw [← HRR.out, if_pos (by omega)]; unfold sgn_w; first | rfl | (simp; done) | (simp; omega))), by repeat (first | (with_reducible refine Below.setCell ?_ (by first | omega | (simp; try omega)) _) | (with_reducible refine Below.alloc ?_ (by first | omega | (simp; try omega)) _) | (with_reducible apply Below.drew) | (with_reducible apply below_drewN) | (with_reducible exact Below.refl _ _) | (with_reducible refine Below.trans ?_ (hb2.mono (by first | omega | (simp; try omega)))) | (with_reducible refine Below.trans ?_ (hb1.mono (by first | omega | (simp; try omega)))))⟩
    · by_cases q2 : mm < 8388608
      · go_enter Tryd.func35, Tryd.ntmps35
        go_wp2_with (first | (go_at_call 58; refine (num_sign (HP.next (by repeat (first | (with_reducible refine Below.alloc ?_ (by first | omega | (simp; try omega)) _) | (with_reducible exact Below.refl _ _))))).mono ?_; rw [HS.out]; rintro e w1 ⟨rfl, hb1⟩; (have X1 := (hb1.block w.heap.size (by simp; omega)).trans ((Below.heap_alloc _ _ _ (by simp)).trans (heap_alloc_new _ _))); (have F1 := (hb1.block (w.heap.size + 1) (by simp)).trans (heap_alloc_at (by simp))); have hz1 := hb1.size; (try simp at hz1); (have hw1 : Below w.heap.size w w1 := ((al _ _).trans ((al _ _).mono (by simp))).trans (hb1.mono (by simp; omega))); (obtain ⟨⟨x0, x1, x2, x3, x4, x5, x6⟩, _⟩ := blk7 X1); (obtain ⟨⟨f0, f1, f2⟩, _⟩ := blk3 F1)) | (go_at_call 59; refine ((Hid.out HR) w1 hw1).mono ?_; rintro e w2 ⟨rfl, hb2⟩; (obtain ⟨⟨g0, g1, g2⟩, _⟩ := blk3 ((hb2.block (w.heap.size + 1) (by omega)).trans F1))) | (go_at_call 60; refine ((Hid.out HK) w2).mono ?_; rintro e w3 ⟨rfl, hw3⟩; subst w3))
        go_ret
        exact ⟨congrArg Ending.returned (congrArg (Value.int IntKind.i64) (by rw [← HRR.out, if_neg (by omega), if_pos (by omega)]; unfold sgn_w; first | rfl | (simp; done) | (simp; omega))), by repeat (first | (with_reducible refine Below.setCell ?_ (by first | omega | (simp; try omega)) _) | (with_reducible refine Below.alloc ?_ (by first | omega | (simp; try omega)) _) | (with_reducible apply Below.drew) | (with_reducible apply below_drewN) | (with_reducible exact Below.refl _ _) | (with_reducible refine Below.trans ?_ (hb2.mono (by first | omega | (simp; try omega)))) | (with_reducible refine Below.trans ?_ (hb1.mono (by first | omega | (simp; try omega)))))⟩
      · go_enter Tryd.func35, Tryd.ntmps35
        go_wp2_with (first | (go_at_call 58; refine (num_sign (HP.next (by repeat (first | (with_reducible refine Below.alloc ?_ (by first | omega | (simp; try omega)) _) | (with_reducible exact Below.refl _ _))))).mono ?_; rw [HS.out]; rintro e w1 ⟨rfl, hb1⟩; (have X1 := (hb1.block w.heap.size (by simp; omega)).trans ((Below.heap_alloc _ _ _ (by simp)).trans (heap_alloc_new _ _))); (have F1 := (hb1.block (w.heap.size + 1) (by simp)).trans (heap_alloc_at (by simp))); have hz1 := hb1.size; (try simp at hz1); (have hw1 : Below w.heap.size w w1 := ((al _ _).trans ((al _ _).mono (by simp))).trans (hb1.mono (by simp; omega))); (obtain ⟨⟨x0, x1, x2, x3, x4, x5, x6⟩, _⟩ := blk7 X1); (obtain ⟨⟨f0, f1, f2⟩, _⟩ := blk3 F1)) | (go_at_call 59; refine ((Hid.out HR) w1 hw1).mono ?_; rintro e w2 ⟨rfl, hb2⟩; (obtain ⟨⟨g0, g1, g2⟩, _⟩ := blk3 ((hb2.block (w.heap.size + 1) (by omega)).trans F1))) | (go_at_call 60; refine ((Hid.out HK) w2).mono ?_; rintro e w3 ⟨rfl, hw3⟩; subst w3))
        go_ret
        exact ⟨congrArg Ending.returned (congrArg (Value.int IntKind.i64) (by rw [← HRR.out, if_neg (by omega), if_neg (by omega)]; unfold sgn_w; first | rfl | (simp; done) | (simp; omega) | omega)), by repeat (first | (with_reducible refine Below.setCell ?_ (by first | omega | (simp; try omega)) _) | (with_reducible refine Below.alloc ?_ (by first | omega | (simp; try omega)) _) | (with_reducible apply Below.drew) | (with_reducible apply below_drewN) | (with_reducible exact Below.refl _ _) | (with_reducible refine Below.trans ?_ (hb2.mono (by first | omega | (simp; try omega)))) | (with_reducible refine Below.trans ?_ (hb1.mono (by first | omega | (simp; try omega)))))⟩
theorem told_eq_w (mode : Int) (neg : Bool) (K' es : Int) (k0 : 0 ≤ K') (k1 : K' ≤ 16777216) (s0 : -149 ≤ es) (hs : es = -149 ∨ 8388608 ≤ K') (mm ee : Int) (hm : mm = if K' = 16777216 then 8388608 else K') (he : ee = if K' = 16777216 then es + 1 else es) :
    (if 104 < ee then (if keepB mode neg then sgn_w neg 2139095039 else sgn_w neg 2139095040) else if mm < 8388608 then sgn_w neg mm else sgn_w neg ((ee - (-149) + 1) * 8388608 + mm - 8388608)) = told_w mode neg K' es := by
  have big : 104 < ee ↔ 2139095039 < K' + (es - (-149)) * 8388608 := by
    by_cases hT : K' = 16777216
    · rw [if_pos hT] at he; omega
    · rw [if_neg hT] at he; omega
  unfold told_w bey_w
  by_cases h1 : 104 < ee
  · rw [if_pos h1, if_pos (big.1 h1)]
    cases keepB mode neg <;> rfl
  · have h2 : ¬ 2139095039 < K' + (es - (-149)) * 8388608 := fun h => h1 (big.2 h)
    rw [if_neg h1, if_neg h2]
    by_cases hT : K' = 16777216
    · rw [if_pos hT] at hm he
      rw [if_neg (by omega)]
      congr 1; omega
    · rw [if_neg hT] at hm he
      by_cases h3 : mm < 8388608
      · rw [if_pos h3]
        congr 1; omega
      · rw [if_neg h3]
        congr 1; omega

set_option maxHeartbeats 4000000 in
theorem told_core_h {w : World} {K : Nat} {VP VQ : Int} {gP gQ : Bool} {pP pQ : Option Addr} {lP cP lQ cQ : Nat} {P : Int} (HP : Num w K (.agg #[.int .i64 VP, .bool gP, .slice pP lP cP]) P) (E mode : Int) (m0 : 0 ≤ mode) (m4 : mode ≤ 4) (neg : Bool) (hneg : decide (P < 0) = neg) (mm ee : Int) (a0 : 0 ≤ mm) (a1 : mm < 2048) (b0 : -24 ≤ ee) (b1 : ee ≤ 1000)
    (hR : ∀ v : World, Below w.heap.size w v → Calls Tryd.prog 59 #[.agg #[.int .i64 VP, .bool gP, .slice pP lP cP, .int .i64 VQ, .bool gQ, .slice pQ lQ cQ, .int .i64 E], .agg #[.int .i64 11, .int .i64 (-24), .int .i64 5], .int .i64 mode, .bool neg] v fun e w' => e = .returned (.tuple #[.int .i64 mm, .int .i64 ee]) ∧ Below v.heap.size v w') :
    Calls Tryd.prog 35 #[.agg #[.int .i64 VP, .bool gP, .slice pP lP cP, .int .i64 VQ, .bool gQ, .slice pQ lQ cQ, .int .i64 E], .agg #[.int .i64 11, .int .i64 (-24), .int .i64 5], .int .i64 mode] w fun e w' => e = .returned (.int .i64 (if 5 < ee then (if keepB mode neg then sgn_h neg 31743 else sgn_h neg 31744) else if mm < 1024 then sgn_h neg mm else sgn_h neg ((ee - (-24) + 1) * 1024 + mm - 1024))) ∧ Below w.heap.size w w' := by
  obtain ⟨cS, hcS⟩ : ∃ cS, cmpZ P 0 = cS := ⟨_, rfl⟩
  have hcs : decide (cS < 0) = neg := by
    rw [← hneg, ← hcS]; unfold cmpZ
    by_cases h : P < 0
    · simp [h]
    · rw [if_neg h]; split <;> simp [h]
  have HS : Hid (cmpZ P 0 = cS) := hcS
  obtain ⟨kp, hkp⟩ : ∃ kp, keepB mode neg = kp := ⟨_, rfl⟩
  have HK : Hid (∀ v : World, Calls Tryd.prog 60 #[.int .i64 mode, .bool neg] v fun e w' => e = .returned (.bool kp) ∧ w' = v) := fun v => by rw [← hkp]; exact keep77 mode m0 m4 neg v
  have HR : Hid (∀ v : World, Below w.heap.size w v → Calls Tryd.prog 59 #[.agg #[.int .i64 VP, .bool gP, .slice pP lP cP, .int .i64 VQ, .bool gQ, .slice pQ lQ cQ, .int .i64 E], .agg #[.int .i64 11, .int .i64 (-24), .int .i64 5], .int .i64 mode, .bool neg] v fun e w' => e = .returned (.tuple #[.int .i64 mm, .int .i64 ee]) ∧ Below v.heap.size v w') := hR
  rw [hkp]
  obtain ⟨R, hRR⟩ : ∃ R : Int, (if 5 < ee then (if kp then sgn_h neg 31743 else sgn_h neg 31744) else if mm < 1024 then sgn_h neg mm else sgn_h neg ((ee - (-24) + 1) * 1024 + mm - 1024)) = R := ⟨_, rfl⟩
  rw [hRR]
  have HRR : Hid ((if 5 < ee then (if kp then sgn_h neg 31743 else sgn_h neg 31744) else if mm < 1024 then sgn_h neg mm else sgn_h neg ((ee - (-24) + 1) * 1024 + mm - 1024)) = R) := hRR
  clear hcS hkp hR hneg m0 m4 hRR
  cases neg
  all_goals
    first | (have hcn : ¬ cS < 0 := by simpa using hcs) | (have hcn : cS < 0 := by simpa using hcs)
    by_cases q1 : 5 < ee
    · cases kp
      all_goals
        go_enter Tryd.func35, Tryd.ntmps35
        go_wp2_with (first | (go_at_call 58; refine (num_sign (HP.next (by repeat (first | (with_reducible refine Below.alloc ?_ (by first | omega | (simp; try omega)) _) | (with_reducible exact Below.refl _ _))))).mono ?_; rw [HS.out]; rintro e w1 ⟨rfl, hb1⟩; (have X1 := (hb1.block w.heap.size (by simp; omega)).trans ((Below.heap_alloc _ _ _ (by simp)).trans (heap_alloc_new _ _))); (have F1 := (hb1.block (w.heap.size + 1) (by simp)).trans (heap_alloc_at (by simp))); have hz1 := hb1.size; (try simp at hz1); (have hw1 : Below w.heap.size w w1 := ((al _ _).trans ((al _ _).mono (by simp))).trans (hb1.mono (by simp; omega))); (obtain ⟨⟨x0, x1, x2, x3, x4, x5, x6⟩, _⟩ := blk7 X1); (obtain ⟨⟨f0, f1, f2⟩, _⟩ := blk3 F1)) | (go_at_call 59; refine ((Hid.out HR) w1 hw1).mono ?_; rintro e w2 ⟨rfl, hb2⟩; (obtain ⟨⟨g0, g1, g2⟩, _⟩ := blk3 ((hb2.block (w.heap.size + 1) (by omega)).trans F1))) | (go_at_call 60; refine ((Hid.out HK) w2).mono ?_; rintro e w3 ⟨rfl, hw3⟩; subst w3))
        go_ret
        exact ⟨congrArg Ending.returned (congrArg (Value.int IntKind.i64) (by rw [← HRR.out, if_pos (by omega)]; unfold sgn_h; first | rfl | (simp; done) | (simp; omega))), by repeat (first | (with_reducible refine Below.setCell ?_ (by first | omega | (simp; try omega)) _) | (with_reducible refine Below.alloc ?_ (by first | omega | (simp; try omega)) _) | (with_reducible apply Below.drew) | (with_reducible apply below_drewN) | (with_reducible exact Below.refl _ _) | (with_reducible refine Below.trans ?_ (hb2.mono (by first | omega | (simp; try omega)))) | (with_reducible refine Below.trans ?_ (hb1.mono (by first | omega | (simp; try omega)))))⟩
    · by_cases q2 : mm < 1024
      · go_enter Tryd.func35, Tryd.ntmps35
        go_wp2_with (first | (go_at_call 58; refine (num_sign (HP.next (by repeat (first | (with_reducible refine Below.alloc ?_ (by first | omega | (simp; try omega)) _) | (with_reducible exact Below.refl _ _))))).mono ?_; rw [HS.out]; rintro e w1 ⟨rfl, hb1⟩; (have X1 := (hb1.block w.heap.size (by simp; omega)).trans ((Below.heap_alloc _ _ _ (by simp)).trans (heap_alloc_new _ _))); (have F1 := (hb1.block (w.heap.size + 1) (by simp)).trans (heap_alloc_at (by simp))); have hz1 := hb1.size; (try simp at hz1); (have hw1 : Below w.heap.size w w1 := ((al _ _).trans ((al _ _).mono (by simp))).trans (hb1.mono (by simp; omega))); (obtain ⟨⟨x0, x1, x2, x3, x4, x5, x6⟩, _⟩ := blk7 X1); (obtain ⟨⟨f0, f1, f2⟩, _⟩ := blk3 F1)) | (go_at_call 59; refine ((Hid.out HR) w1 hw1).mono ?_; rintro e w2 ⟨rfl, hb2⟩; (obtain ⟨⟨g0, g1, g2⟩, _⟩ := blk3 ((hb2.block (w.heap.size + 1) (by omega)).trans F1))) | (go_at_call 60; refine ((Hid.out HK) w2).mono ?_; rintro e w3 ⟨rfl, hw3⟩; subst w3))
        go_ret
        exact ⟨congrArg Ending.returned (congrArg (Value.int IntKind.i64) (by rw [← HRR.out, if_neg (by omega), if_pos (by omega)]; unfold sgn_h; first | rfl | (simp; done) | (simp; omega))), by repeat (first | (with_reducible refine Below.setCell ?_ (by first | omega | (simp; try omega)) _) | (with_reducible refine Below.alloc ?_ (by first | omega | (simp; try omega)) _) | (with_reducible apply Below.drew) | (with_reducible apply below_drewN) | (with_reducible exact Below.refl _ _) | (with_reducible refine Below.trans ?_ (hb2.mono (by first | omega | (simp; try omega)))) | (with_reducible refine Below.trans ?_ (hb1.mono (by first | omega | (simp; try omega)))))⟩
      · go_enter Tryd.func35, Tryd.ntmps35
        go_wp2_with (first | (go_at_call 58; refine (num_sign (HP.next (by repeat (first | (with_reducible refine Below.alloc ?_ (by first | omega | (simp; try omega)) _) | (with_reducible exact Below.refl _ _))))).mono ?_; rw [HS.out]; rintro e w1 ⟨rfl, hb1⟩; (have X1 := (hb1.block w.heap.size (by simp; omega)).trans ((Below.heap_alloc _ _ _ (by simp)).trans (heap_alloc_new _ _))); (have F1 := (hb1.block (w.heap.size + 1) (by simp)).trans (heap_alloc_at (by simp))); have hz1 := hb1.size; (try simp at hz1); (have hw1 : Below w.heap.size w w1 := ((al _ _).trans ((al _ _).mono (by simp))).trans (hb1.mono (by simp; omega))); (obtain ⟨⟨x0, x1, x2, x3, x4, x5, x6⟩, _⟩ := blk7 X1); (obtain ⟨⟨f0, f1, f2⟩, _⟩ := blk3 F1)) | (go_at_call 59; refine ((Hid.out HR) w1 hw1).mono ?_; rintro e w2 ⟨rfl, hb2⟩; (obtain ⟨⟨g0, g1, g2⟩, _⟩ := blk3 ((hb2.block (w.heap.size + 1) (by omega)).trans F1))) | (go_at_call 60; refine ((Hid.out HK) w2).mono ?_; rintro e w3 ⟨rfl, hw3⟩; subst w3))
        go_ret
        exact ⟨congrArg Ending.returned (congrArg (Value.int IntKind.i64) (by rw [← HRR.out, if_neg (by omega), if_neg (by omega)]; unfold sgn_h; first | rfl | (simp; done) | (simp; omega) | omega)), by repeat (first | (with_reducible refine Below.setCell ?_ (by first | omega | (simp; try omega)) _) | (with_reducible refine Below.alloc ?_ (by first | omega | (simp; try omega)) _) | (with_reducible apply Below.drew) | (with_reducible apply below_drewN) | (with_reducible exact Below.refl _ _) | (with_reducible refine Below.trans ?_ (hb2.mono (by first | omega | (simp; try omega)))) | (with_reducible refine Below.trans ?_ (hb1.mono (by first | omega | (simp; try omega)))))⟩
theorem told_eq_h (mode : Int) (neg : Bool) (K' es : Int) (k0 : 0 ≤ K') (k1 : K' ≤ 2048) (s0 : -24 ≤ es) (hs : es = -24 ∨ 1024 ≤ K') (mm ee : Int) (hm : mm = if K' = 2048 then 1024 else K') (he : ee = if K' = 2048 then es + 1 else es) :
    (if 5 < ee then (if keepB mode neg then sgn_h neg 31743 else sgn_h neg 31744) else if mm < 1024 then sgn_h neg mm else sgn_h neg ((ee - (-24) + 1) * 1024 + mm - 1024)) = told_h mode neg K' es := by
  have big : 5 < ee ↔ 31743 < K' + (es - (-24)) * 1024 := by
    by_cases hT : K' = 2048
    · rw [if_pos hT] at he; omega
    · rw [if_neg hT] at he; omega
  unfold told_h bey_h
  by_cases h1 : 5 < ee
  · rw [if_pos h1, if_pos (big.1 h1)]
    cases keepB mode neg <;> rfl
  · have h2 : ¬ 31743 < K' + (es - (-24)) * 1024 := fun h => h1 (big.2 h)
    rw [if_neg h1, if_neg h2]
    by_cases hT : K' = 2048
    · rw [if_pos hT] at hm he
      rw [if_neg (by omega)]
      congr 1; omega
    · rw [if_neg hT] at hm he
      by_cases h3 : mm < 1024
      · rw [if_pos h3]
        congr 1; omega
      · rw [if_neg h3]
        congr 1; omega
end Go.Proofs.YtoloenkcfpfgcaaDoor
