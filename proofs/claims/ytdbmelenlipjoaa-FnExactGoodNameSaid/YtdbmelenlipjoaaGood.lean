/- Contracts of GoodName, the program's and the model's: both answer whether the text is one run of at most 20 runes and no word; conditions: texts at most 2^20 long. -/
import Derived.Test.YtdbmelenlipjoaaAhead
namespace Go.Proofs.Ytdbmelenlipjoaa
open Go.ChangeShapes Go.WideShapes Go.ChangeAt Go.RowKit
set_option linter.unusedVariables false
theorem contains25 (n a ca : Nat) (f : Nat → ByteArray) (s : ByteArray) (w : World) (hn : n ≤ 1048576) (ha : ∀ i, i < n → w.cell? ⟨a, i, none⟩ = some (.string (f i))) :
    Calls Try.prog 25 #[.slice (some ⟨a, 0, none⟩) n ca, .string s] w fun r w' => r = .returned (.bool (isIn f s n)) ∧ w' = w := by
  have h := index27 n a ca f s w hn ha
  have H : Hid (Calls Try.prog 27 #[.slice (some ⟨a, 0, none⟩) n ca, .string s] w fun r w' => (∃ v : Int, r = .returned (.int .i64 v) ∧ isIn f s n = decide (0 ≤ v)) ∧ w' = w) := h
  clear h ha
  go_enter Try.func25, Try.ntmps25
  go_wp2_with (go_at_call 27; refine (Hid.out H).mono ?_; rintro e w' ⟨⟨v, rfl, hv⟩, hw⟩; subst w'; have HV : Hid (isIn f s n = decide (0 ≤ v)) := hv; clear hv)
  go_ret
  exact ⟨by rw [HV.out]; rfl, rfl⟩
theorem word19 (s : ByteArray) (w : World) : Calls Try.prog 19 #[.string s] w fun r w' => r = .returned (.bool (isIn (textAt wordsL) s 13)) ∧ Below w.heap.size w w' := by
  go_enter Try.func19, Try.ntmps19
  go_wp2_with (first | (go_at_call 7; refine (lit7 w).mono ?_; rintro e w1 ⟨rfl, S1, B1⟩) | (go_at_call 25; refine (contains25 13 w.heap.size 13 (textAt wordsL) s w1 (by omega) S1.cell).mono ?_; rintro e w' ⟨rfl, hw⟩; subst w'))
  go_ret
  exact ⟨rfl, B1⟩
/-- Whether a text is a name. -/
def goodB (s : ByteArray) : Bool := if 0 < s.size ∧ (nameRun s s.size 0 0).1 = s.size ∧ (nameRun s s.size 0 0).2 ≤ 20 then !isIn (textAt wordsL) s 13 else false
set_option maxHeartbeats 1000000 in
theorem good14 (s : ByteArray) (w : World) (hs : s.size ≤ 1048576) : Calls Try.prog 14 #[.string s] w fun r w' => r = .returned (.bool (goodB s)) ∧ Below w.heap.size w w' := by
  have ha := ahead18 s w hs
  have hg : goodB s = if 0 < s.size ∧ (nameRun s s.size 0 0).1 = s.size ∧ (nameRun s s.size 0 0).2 ≤ 20 then !isIn (textAt wordsL) s 13 else false := rfl
  obtain ⟨A, hA⟩ : ∃ A, (nameRun s s.size 0 0).1 = A := ⟨_, rfl⟩
  obtain ⟨R, hR⟩ : ∃ A, (nameRun s s.size 0 0).2 = A := ⟨_, rfl⟩
  rw [hA, hR] at ha hg
  obtain ⟨G, hG⟩ : ∃ G, goodB s = G := ⟨_, rfl⟩
  rw [hG] at hg ⊢
  have HA : Hid (Calls Try.prog 18 #[.string s] w fun r w' => r = .returned (.tuple #[.int .i64 (A : Nat), .int .i64 (R : Nat)]) ∧ Below w.heap.size w w') := ha
  have HW : Hid (∀ w1, Calls Try.prog 19 #[.string s] w1 fun r w' => r = .returned (.bool (isIn (textAt wordsL) s 13)) ∧ Below w1.heap.size w1 w') := fun w1 => word19 s w1
  have HG : Hid (G = if 0 < s.size ∧ A = s.size ∧ R ≤ 20 then !isIn (textAt wordsL) s 13 else false) := hg
  clear ha hA hR hG hg
  obtain ⟨I, hI⟩ : ∃ I, isIn (textAt wordsL) s 13 = I := ⟨_, rfl⟩
  rw [hI] at HG HW
  clear hI
  by_cases c1 : 0 < A
  · have c1' : (0 : Int) < (A : Int) := by omega
    by_cases c2 : A = s.size
    · have c2' : ((A : Int) == (s.size : Int)) = true := by simp [c2]
      by_cases c3 : R ≤ 20
      · have c3' : (R : Int) ≤ 20 := by omega
        have hg2 : G = !I := by rw [HG.out, if_pos ⟨by omega, c2, c3⟩]
        clear HG c2
        go_enter Try.func14, Try.ntmps14
        go_wp2_with (first | (go_at_call 18; refine (Hid.out HA).mono ?_; rintro e w1 ⟨rfl, B1⟩) | (go_at_call 19; refine ((Hid.out HW) w1).mono ?_; rintro e w2 ⟨rfl, B2⟩))
        go_ret
        exact ⟨by first | rfl | (rw [hg2]; rfl), B1.trans (B2.mono B1.size)⟩
      · have c3' : ¬ (R : Int) ≤ 20 := by omega
        have hg2 : G = false := by rw [HG.out, if_neg (by omega)]
        clear HG c2
        go_enter Try.func14, Try.ntmps14
        go_wp2_with (first | (go_at_call 18; refine (Hid.out HA).mono ?_; rintro e w1 ⟨rfl, B1⟩))
        go_ret
        exact ⟨by first | rfl | (rw [hg2]; rfl), B1⟩
    · have c2' : ((A : Int) == (s.size : Int)) = false := by simp; omega
      have hg2 : G = false := by rw [HG.out, if_neg (by omega)]
      clear HG
      go_enter Try.func14, Try.ntmps14
      go_wp2_with (first | (go_at_call 18; refine (Hid.out HA).mono ?_; rintro e w1 ⟨rfl, B1⟩))
      go_ret
      exact ⟨by first | rfl | (rw [hg2]; rfl), B1⟩
  · have c1' : ¬ (0 : Int) < (A : Int) := by omega
    have hg2 : G = false := by rw [HG.out, if_neg (by omega)]
    clear HG
    go_enter Try.func14, Try.ntmps14
    go_wp2_with (first | (go_at_call 18; refine (Hid.out HA).mono ?_; rintro e w1 ⟨rfl, B1⟩))
    go_ret
    exact ⟨by first | rfl | (rw [hg2]; rfl), B1⟩
set_option maxHeartbeats 1000000 in
theorem good13 (s : ByteArray) (w : World) (hs : s.size ≤ 1048576) : Calls Try.prog 13 #[.string s] w fun r w' => r = .returned (.bool (goodB s)) ∧ Below w.heap.size w w' := by
  have ha := run16 s w hs
  have hg : goodB s = if 0 < s.size ∧ (nameRun s s.size 0 0).1 = s.size ∧ (nameRun s s.size 0 0).2 ≤ 20 then !isIn (textAt wordsL) s 13 else false := rfl
  obtain ⟨A, hA⟩ : ∃ A, (nameRun s s.size 0 0).1 = A := ⟨_, rfl⟩
  obtain ⟨R, hR⟩ : ∃ A, (nameRun s s.size 0 0).2 = A := ⟨_, rfl⟩
  rw [hA, hR] at ha hg
  obtain ⟨G, hG⟩ : ∃ G, goodB s = G := ⟨_, rfl⟩
  rw [hG] at hg ⊢
  have HA : Hid (Calls Try.prog 16 #[.string s, .int .i64 0] w fun r w' => r = .returned (.tuple #[.int .i64 (A : Nat), .int .i64 (R : Nat)]) ∧ w' = w) := ha
  have HW : Hid (∀ (w1 : World) (a : Nat), Own w1 a 13 (fun i => .string (textAt wordsL i)) → Calls Try.prog 17 #[.slice (some ⟨a, 0, none⟩) 13 13, .string s] w1 fun r w' => r = .returned (.bool (isIn (textAt wordsL) s 13)) ∧ w' = w1) := fun w1 a O => in17 13 a 13 (textAt wordsL) s w1 (by omega) O.cell
  have HG : Hid (G = if 0 < s.size ∧ A = s.size ∧ R ≤ 20 then !isIn (textAt wordsL) s 13 else false) := hg
  clear ha hA hR hG hg
  obtain ⟨I, hI⟩ : ∃ I, isIn (textAt wordsL) s 13 = I := ⟨_, rfl⟩
  rw [hI] at HG HW
  clear hI
  by_cases c1 : 0 < s.size
  · have c1' : (0 : Int) < (s.size : Int) := by omega
    by_cases c2 : A = s.size
    · have c2' : ((A : Int) == (s.size : Int)) = true := by simp [c2]
      by_cases c3 : R ≤ 20
      · have c3' : (R : Int) ≤ 20 := by omega
        have hg2 : G = !I := by rw [HG.out, if_pos ⟨by omega, c2, c3⟩]
        clear HG c2
        go_enter Try.func13, Try.ntmps13
        go_wp2_with (first | (go_at_call 16; refine (Hid.out HA).mono ?_; rintro e w1 ⟨rfl, hw⟩; subst w1) | (go_at_call 6; refine (lit6 w).mono ?_; rintro e w1 ⟨rfl, S1, B1⟩) | (go_at_call 17; refine ((Hid.out HW) w1 w.heap.size S1).mono ?_; rintro e w' ⟨rfl, hw⟩; subst w'))
        go_ret
        exact ⟨by first | rfl | (rw [hg2]; rfl), B1⟩
      · have c3' : ¬ (R : Int) ≤ 20 := by omega
        have hg2 : G = false := by rw [HG.out, if_neg (by omega)]
        clear HG c2
        go_enter Try.func13, Try.ntmps13
        go_wp2_with (first | (go_at_call 16; refine (Hid.out HA).mono ?_; rintro e w1 ⟨rfl, hw⟩; subst w1))
        go_ret
        exact ⟨by first | rfl | (rw [hg2]; rfl), Below.refl _ _⟩
    · have c2' : ((A : Int) == (s.size : Int)) = false := by simp; omega
      have hg2 : G = false := by rw [HG.out, if_neg (by omega)]
      clear HG
      go_enter Try.func13, Try.ntmps13
      go_wp2_with (first | (go_at_call 16; refine (Hid.out HA).mono ?_; rintro e w1 ⟨rfl, hw⟩; subst w1))
      go_ret
      exact ⟨by first | rfl | (rw [hg2]; rfl), Below.refl _ _⟩
  · have c1' : ¬ (0 : Int) < (s.size : Int) := by omega
    have hg2 : G = false := by rw [HG.out, if_neg (by omega)]
    clear HG
    go_enter Try.func13, Try.ntmps13
    go_wp2_with (first | (go_at_call 16; refine (Hid.out HA).mono ?_; rintro e w1 ⟨rfl, hw⟩; subst w1))
    go_ret
    exact ⟨by first | rfl | (rw [hg2]; rfl), Below.refl _ _⟩
end Go.Proofs.Ytdbmelenlipjoaa
