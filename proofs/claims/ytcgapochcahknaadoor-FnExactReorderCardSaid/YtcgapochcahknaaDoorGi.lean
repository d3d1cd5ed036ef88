/- Contract of goodInstr: whether an instruction is as said in code of n; conditions: n from 1 to 600, the bounds of a word, the table of calls holds its names and numbers. -/
import Derived.Test.YtcgapochcahknaaDoorGc2
namespace Go.Proofs.YtcgapochcahknaaDoor
open Go.ChangeShapes Go.WideShapes Go.ChangeAt Go.RowKit
set_option linter.unusedVariables false
theorem ixiAll (d a b c x : Int) (k : Nat) (hk : k < 5) (v : World) : (Instr.index 93 (.agg #[.int .i64 d, .int .i64 a, .int .i64 b, .int .i64 c, .int .i64 x]) (.int .i64 (k : Int))).run Tryd.prog v = .ok (.int .i64 (val d a b c x k)) v := by
  rcases (by omega : k = 0 ∨ k = 1 ∨ k = 2 ∨ k = 3 ∨ k = 4) with rfl | rfl | rfl | rfl | rfl
  · exact ixi0 d a b c x v
  · exact ixi1 d a b c x v
  · exact ixi2 d a b c x v
  · exact ixi3 d a b c x v
  · exact ixi4 d a b c x v
theorem great57 (o n : Int) (n0 : 1 ≤ n) (n1 : n ≤ 600) (k : Nat) (hk : k < 5) (v : World) : Calls Tryd.prog 73 #[.int .i64 o, .int .i64 (k : Int), .int .i64 n] v fun e w' => e = .returned (.int .i64 (gv o k n)) ∧ Below v.heap.size v w' := by
  rcases (by omega : k = 0 ∨ k = 1 ∨ k = 2 ∨ k = 3 ∨ k = 4) with rfl | rfl | rfl | rfl | rfl
  · exact great57_0 o n v n0 n1
  · exact great57_1 o n v n0 n1
  · exact great57_2 o n v n0 n1
  · exact great57_3 o n v n0 n1
  · exact great57_4 o n v n0 n1
set_option maxRecDepth 100000 in
set_option maxHeartbeats 4000000 in
theorem good33 (o d a b c x n : Int) (w : World) (G : Forms w) (x0 : 0 ≤ x) (x1 : x < 4294967296) (n0 : 1 ≤ n) (n1 : n ≤ 600) : Calls Tryd.prog 40 #[.agg #[.int .i64 o, .int .i64 d, .int .i64 a, .int .i64 b, .int .i64 c, .int .u32 x], .int .i64 n] w fun e w' => e = .returned (.bool (goodI o d a b c x n)) ∧ Below w.heap.size w w' := by
  have h44 := fun v => vals44 o d a b c x v x0 x1
  have HX : Hid (∀ k : Nat, k < 5 → ∀ v, (Instr.index 93 (.agg #[.int .i64 d, .int .i64 a, .int .i64 b, .int .i64 c, .int .i64 x]) (.int .i64 (k : Int))).run Tryd.prog v = .ok (.int .i64 (val d a b c x k)) v) := ixiAll d a b c x
  have HG : Hid (∀ k : Nat, k < 5 → ∀ v, Calls Tryd.prog 73 #[.int .i64 o, .int .i64 (k : Int), .int .i64 n] v fun e w' => e = .returned (.int .i64 (gv o k n)) ∧ Below v.heap.size v w') := great57 o n n0 n1
  have h59 := fun v => sign59 x v x0 x1
  have h58 := fun v => strong58 (sgnW x) v
  have h60 := fun v => kind60 x v x0 x1
  have H61 : Hid (∀ v, Forms v → Calls Tryd.prog 75 #[.agg #[.int .i64 o, .int .i64 d, .int .i64 a, .int .i64 b, .int .i64 c, .int .u32 x]] v fun e w' => e = .returned (.bool (callOk a b c x)) ∧ Below v.heap.size v w') := fun v g => good61 o d a b c x v g x0 x1
  have HP : Hid (goodI o d a b c x n = (okF o d a b c x n 5 && swOk o a b c x)) := rfl
  have HS := okF_stop o d a b c x n
  have HSw : Hid (swOk o a b c x = if o = 3 then signOk x else if o = 4 then callOk a b c x else decide (1 ≤ o) && decide (o ≤ 13)) := rfl
  have HSi : Hid (signOk x = (decide (0 < st (sgnW x)) && !(x % 4 == 0))) := rfl
  have HSt : Hid (∀ k, okF o d a b c x n (k + 1) = (okF o d a b c x n k && inB (val d a b c x k) (gv o k n))) := fun k => rfl
  have BW : Below w.heap.size w (w.alloc (.cells #[.int .i64 o, .int .i64 d, .int .i64 a, .int .i64 b, .int .i64 c, .int .u32 x] 35)) := (Below.refl _ _).alloc (Nat.le_refl _) _
  have KW : Kp (w.alloc (.cells #[.int .i64 o, .int .i64 d, .int .i64 a, .int .i64 b, .int .i64 c, .int .u32 x] 35)) (w.alloc (.cells #[.int .i64 o, .int .i64 d, .int .i64 a, .int .i64 b, .int .i64 c, .int .u32 x] 35)) := ⟨Below.refl _ _, G.below BW⟩
  have c0 : (w.alloc (.cells #[.int .i64 o, .int .i64 d, .int .i64 a, .int .i64 b, .int .i64 c, .int .u32 x] 35)).cell? ⟨w.heap.size, 0, none⟩ = some (.int .i64 o) := by simp
  have c1 : (w.alloc (.cells #[.int .i64 o, .int .i64 d, .int .i64 a, .int .i64 b, .int .i64 c, .int .u32 x] 35)).cell? ⟨w.heap.size, 1, none⟩ = some (.int .i64 d) := by simp
  have c2 : (w.alloc (.cells #[.int .i64 o, .int .i64 d, .int .i64 a, .int .i64 b, .int .i64 c, .int .u32 x] 35)).cell? ⟨w.heap.size, 2, none⟩ = some (.int .i64 a) := by simp
  have c3 : (w.alloc (.cells #[.int .i64 o, .int .i64 d, .int .i64 a, .int .i64 b, .int .i64 c, .int .u32 x] 35)).cell? ⟨w.heap.size, 3, none⟩ = some (.int .i64 b) := by simp
  have c4 : (w.alloc (.cells #[.int .i64 o, .int .i64 d, .int .i64 a, .int .i64 b, .int .i64 c, .int .u32 x] 35)).cell? ⟨w.heap.size, 4, none⟩ = some (.int .i64 c) := by simp
  have c5 : (w.alloc (.cells #[.int .i64 o, .int .i64 d, .int .i64 a, .int .i64 b, .int .i64 c, .int .u32 x] 35)).cell? ⟨w.heap.size, 5, none⟩ = some (.int .u32 x) := by simp
  have ql : w.heap.size < (w.alloc (.cells #[.int .i64 o, .int .i64 d, .int .i64 a, .int .i64 b, .int .i64 c, .int .u32 x] 35)).heap.size := by simp
  have HB : Hid (∀ v, Kp (w.alloc (.cells #[.int .i64 o, .int .i64 d, .int .i64 a, .int .i64 b, .int .i64 c, .int .u32 x] 35)) v → Below w.heap.size w v) := fun v k => BW.trans (k.below.mono BW.size)
  have HC : Hid (∀ v, Kp (w.alloc (.cells #[.int .i64 o, .int .i64 d, .int .i64 a, .int .i64 b, .int .i64 c, .int .u32 x] 35)) v → v.cell? ⟨w.heap.size, 0, none⟩ = some (.int .i64 o) ∧ v.cell? ⟨w.heap.size, 1, none⟩ = some (.int .i64 d) ∧ v.cell? ⟨w.heap.size, 2, none⟩ = some (.int .i64 a) ∧ v.cell? ⟨w.heap.size, 3, none⟩ = some (.int .i64 b) ∧ v.cell? ⟨w.heap.size, 4, none⟩ = some (.int .i64 c) ∧ v.cell? ⟨w.heap.size, 5, none⟩ = some (.int .u32 x)) := fun v k => ⟨(k.below.cell (p := ⟨w.heap.size, 0, none⟩) ql).trans c0, (k.below.cell (p := ⟨w.heap.size, 1, none⟩) ql).trans c1, (k.below.cell (p := ⟨w.heap.size, 2, none⟩) ql).trans c2, (k.below.cell (p := ⟨w.heap.size, 3, none⟩) ql).trans c3, (k.below.cell (p := ⟨w.heap.size, 4, none⟩) ql).trans c4, (k.below.cell (p := ⟨w.heap.size, 5, none⟩) ql).trans c5⟩
  rw [HP.out]
  clear BW G x0 x1 c0 c1 c2 c3 c4 c5
  generalize signOk x = SO at HSi HSw
  generalize swOk o a b c x = SW at HSw ⊢
  have H0 : okF o d a b c x n 0 = true := rfl
  generalize okF o d a b c x n = OF at HS HSt H0 ⊢
  have H0 : Hid (OF 0 = true) := H0
  go_enter Tryd.func40, Tryd.ntmps40
  go_wp2_with (go_at_call 72; refine (h44 _).mono ?_; rintro e w1 ⟨rfl, b1⟩)
  obtain ⟨W, hW⟩ : ∃ W, w.alloc (.cells #[.int .i64 o, .int .i64 d, .int .i64 a, .int .i64 b, .int .i64 c, .int .u32 x] 35) = W := ⟨_, rfl⟩
  rw [hW] at b1 KW HB HC
  have K1 := KW.next b1
  clear KW b1 h44
  go_loopw [9] (fun i wx => ∃ k : Nat, k ≤ 5 ∧ i = .int .i64 k ∧ Hid (OF k = true) ∧ Kp W wx) (fun i _ => 5 - (intOf i).toNat)
  case atStart => exact ⟨0, by omega, rfl, H0, K1⟩
  case round =>
    obtain ⟨k, hk, rfl, HO, KK⟩ := hrel
    obtain ⟨c0, c1, c2, c3, c4, c5⟩ := HC.out _ KK
    by_cases hk5 : k < 5
    · have ik := HX.out k hk5
      have hg := HG.out k hk5
      have hst := HS k
      have hsk := HSt.out k
      have i1 : (k : Int) < 5 := by omega
      generalize gv o k n = g at hg hst hsk
      generalize val d a b c x k = V at ik hst hsk
      unfold inB at hst hsk
      by_cases v0 : V < 0
      · have hv : decide (V < 0) = true := decide_eq_true v0
        have HQ : Hid (OF 5 = false) := hst (by rw [decide_eq_false (by omega)]; rfl) 5 hk5
        clear hst hsk HS
        go_wp2
        go_ret
        exact ⟨by rw [HQ.out]; rfl, HB.out _ KK⟩
      have v0' : 0 ≤ V := by omega
      by_cases v1 : g < V
      · have HQ : Hid (OF 5 = false) := hst (by rw [decide_eq_false (show ¬ V ≤ g by omega)]; simp) 5 hk5
        clear hst hsk HS
        go_wp2_with (go_at_call 73; refine (hg _).mono ?_; rintro e w2 ⟨rfl, b2⟩)
        go_ret
        exact ⟨by rw [HQ.out]; rfl, HB.out _ (KK.next b2)⟩
      · have v1' : V ≤ g := by omega
        have HQ : Hid (OF (k + 1) = true) := by show _ = _; rw [hsk, HO.out, decide_eq_true v0', decide_eq_true v1']; rfl
        clear hst hsk HS
        go_wp2_with (go_at_call 73; refine (hg _).mono ?_; rintro e w2 ⟨rfl, b2⟩)
        go_roundw
        case rel => exact ⟨k + 1, by omega, by go_num, HQ, KK.next b2⟩
        case measure => simp [intOf]; omega
    · have hkk : k = 5 := by omega
      subst hkk
      rw [show ((5 : Nat) : Int) = 5 from rfl]
      have HO5 : Hid (∀ T : Bool, (OF 5 && T) = T) := fun T => by rw [HO.out]; rfl
      clear HS HSt HX HG
      by_cases e3 : o = 3
      · subst e3
        have hsw : SW = SO := by rw [HSw.out, if_pos rfl]
        have HF : Hid (SW = (decide (0 < st (sgnW x)) && !(x % 4 == 0))) := by show _ = _; rw [hsw, HSi.out]
        clear hsw HSw HSi H61
        generalize st (sgnW x) = Z at h58 HF
        by_cases z0 : 0 < Z
        · rw [decide_eq_true z0] at HF
          go_wp2_with (first | (go_at_call 43; refine (h59 _).mono ?_; rintro e w2 ⟨rfl, b2⟩; (obtain ⟨d0, d1, d2, d3, d4, d5⟩ := HC.out _ (KK.next b2))) | (go_at_call 74; refine (h58 _).mono ?_; rintro e w3 ⟨rfl, hw⟩; subst w3) | (go_at_call 41; refine (h60 _).mono ?_; rintro e w3 ⟨rfl, hw⟩; subst w3))
          go_ret
          exact ⟨by rw [HO5.out, HF.out]; rfl, HB.out _ (KK.next b2)⟩
        · rw [decide_eq_false z0] at HF
          go_wp2_with (first | (go_at_call 43; refine (h59 _).mono ?_; rintro e w2 ⟨rfl, b2⟩; (obtain ⟨d0, d1, d2, d3, d4, d5⟩ := HC.out _ (KK.next b2))) | (go_at_call 74; refine (h58 _).mono ?_; rintro e w3 ⟨rfl, hw⟩; subst w3) | (go_at_call 41; refine (h60 _).mono ?_; rintro e w3 ⟨rfl, hw⟩; subst w3))
          go_ret
          exact ⟨by rw [HO5.out, HF.out]; rfl, HB.out _ (KK.next b2)⟩
      have f3 : (o == 3) = false := by simp; omega
      by_cases e4 : o = 4
      · subst e4
        have hsw : SW = callOk a b c x := by rw [HSw.out, if_neg (by decide), if_pos rfl]
        have HF : Hid (SW = callOk a b c x) := hsw
        clear hsw HSw HSi e3
        go_wp2_with (go_at_call 75; refine (H61.out _ KK.forms).mono ?_; rintro e w2 ⟨rfl, b2⟩)
        go_ret
        exact ⟨by rw [HO5.out, HF.out]; rfl, HB.out _ (KK.next b2)⟩
      have f4 : (o == 4) = false := by simp; omega
      have hsw : SW = (decide (1 ≤ o) && decide (o ≤ 13)) := by rw [HSw.out, if_neg e3, if_neg e4]
      have HF : Hid (SW = (decide (1 ≤ o) && decide (o ≤ 13))) := hsw
      clear hsw HSw HSi e3 e4 H61
      by_cases o1 : 1 ≤ o
      · rw [decide_eq_true o1] at HF
        go_wp2
        go_ret
        exact ⟨by rw [HO5.out, HF.out]; rfl, HB.out _ KK⟩
      · rw [decide_eq_false o1] at HF
        have o1' : o < 1 := by omega
        go_wp2
        go_ret
        exact ⟨by rw [HO5.out, HF.out]; rfl, HB.out _ KK⟩
end Go.Proofs.YtcgapochcahknaaDoor
