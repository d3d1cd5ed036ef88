/- Lists of three places in the cube; GoodBlock and GoodRay of both sides. -/
import Derived.Test.YtngmaeinehfimaaLa
namespace Go.Proofs.Ytngmaeinehfimaa
open Go.ChangeShapes Go.WideShapes Go.ChangeAt Go.RowKit
set_option linter.unusedVariables false
/-- The greatest of the first k + 1. -/
def mxL (f : Nat → Int) : Nat → Int
  | 0 => f 0
  | k + 1 => max (mxL f k) (f (k + 1))
set_option maxHeartbeats 2000000 in
theorem pmxL (u : Value) (L : List Int) (w : World) (U : ARow w u L) (n : Nat) (hn : L.length = n + 1) (hm : n + 1 ≤ 9223372036854775807) : Calls Try.prog 77 #[u] w fun e w' => e = .returned (.int .i64 (mxL (fun i => L.getD i 0) n)) ∧ w' = w := by
  obtain ⟨ad, c, rfl, hx⟩ := U
  rw [hn] at hx ⊢
  have HX := Hid.mk hx
  generalize hf : (fun i => L.getD i 0) = f
  have HX : Hid (∀ i, i < n + 1 → ∃ g o, ad = some ⟨g, o, none⟩ ∧ w.cell? ⟨g, o + i, none⟩ = some (.int .i64 (f i))) := by rw [← hf]; exact hx
  clear hx hf hn
  obtain ⟨g, o, rfl, h0⟩ := HX.out 0 (by omega)
  rw [Nat.add_zero] at h0
  obtain ⟨m, hm2⟩ : ∃ m, n + 1 = m := ⟨_, rfl⟩
  have HM : Hid (m = n + 1) := hm2.symm
  rw [hm2] at HX hm ⊢
  have j0 : ¬ (m : Int) < 1 := by omega
  have j1 : (0 : Int) < (m : Int) := by omega
  have HZ : Hid (mxL f 0 = f 0) := rfl
  clear hm2
  go_enter Try.func77, Try.ntmps77
  go_wp2
  go_loopw [3, 4] (fun x i wr => ∃ k : Nat, k ≤ n ∧ x = .int .i64 (mxL f k) ∧ i = .int .i64 ((k + 1 : Nat) : Int) ∧ wr = w) (fun _ i _ => n + 1 - (intOf i).toNat)
  case atStart => exact ⟨0, Nat.zero_le _, by rw [HZ.out], by simp, rfl⟩
  case round =>
    obtain ⟨k, hk, rfl, rfl, rfl⟩ := hrel
    have HE := HM.out
    by_cases hkn : k < n
    · obtain ⟨g', o', e1, hc⟩ := HX.out (k + 1) (by omega)
      injection e1 with e1
      injection e1 with e1 e2
      subst e1; subst e2
      have HS : Hid (mxL f (k + 1) = max (mxL f k) (f (k + 1))) := rfl
      obtain ⟨y, hy0⟩ : ∃ y, mxL f (k + 1) = y := ⟨_, rfl⟩
      have HY : Hid (mxL f (k + 1) = y) := hy0
      rw [hy0] at HS
      clear hy0
      generalize mxL f k = a at HS ⊢
      obtain ⟨b, hb⟩ : ∃ b, f (k + 1) = b := ⟨_, rfl⟩
      rw [hb] at hc HS
      clear hb h0
      obtain ⟨q, hq⟩ : ∃ q, k + 1 = q := ⟨_, rfl⟩
      have HQ : Hid (k + 1 = q) := hq
      rw [hq] at hc ⊢
      have i1 : (q : Int) < (m : Int) := by omega
      have i0 : (0 : Int) ≤ (q : Int) := by omega
      clear hq HE
      have hcase : a < b ∨ a = b ∨ b < a := by omega
      rcases hcase with h | h | h
      · have hy : y = b := by rw [HS.out]; omega
        go_wp2
        go_roundw
        case rel => exact ⟨k + 1, by omega, by rw [HY.out, hy], by rw [HQ.out]; go_num, by first | rfl | trivial⟩
        case measure => simp [intOf]; have := HQ.out; have := HM.out; omega
      · subst h
        have hy : y = a := by rw [HS.out]; omega
        go_wp2
        go_roundw
        case rel => exact ⟨k + 1, by omega, by rw [HY.out, hy], by rw [HQ.out]; go_num, by first | rfl | trivial⟩
        case measure => simp [intOf]; have := HQ.out; have := HM.out; omega
      · have hy : y = a := by rw [HS.out]; omega
        go_wp2
        go_roundw
        case rel => exact ⟨k + 1, by omega, by rw [HY.out, hy], by rw [HQ.out]; go_num, by first | rfl | trivial⟩
        case measure => simp [intOf]; have := HQ.out; have := HM.out; omega
    · obtain rfl : n = k := by omega
      have i1 : ¬ ((n + 1 : Nat) : Int) < (m : Int) := by omega
      go_wp2
      go_ret
      exact ⟨rfl, rfl⟩
/-- The least of the first k + 1. -/
def mnL (f : Nat → Int) : Nat → Int
  | 0 => f 0
  | k + 1 => min (mnL f k) (f (k + 1))
set_option maxHeartbeats 2000000 in
theorem pmnL (u : Value) (L : List Int) (w : World) (U : ARow w u L) (n : Nat) (hn : L.length = n + 1) (hm : n + 1 ≤ 9223372036854775807) : Calls Try.prog 78 #[u] w fun e w' => e = .returned (.int .i64 (mnL (fun i => L.getD i 0) n)) ∧ w' = w := by
  obtain ⟨ad, c, rfl, hx⟩ := U
  rw [hn] at hx ⊢
  have HX := Hid.mk hx
  generalize hf : (fun i => L.getD i 0) = f
  have HX : Hid (∀ i, i < n + 1 → ∃ g o, ad = some ⟨g, o, none⟩ ∧ w.cell? ⟨g, o + i, none⟩ = some (.int .i64 (f i))) := by rw [← hf]; exact hx
  clear hx hf hn
  obtain ⟨g, o, rfl, h0⟩ := HX.out 0 (by omega)
  rw [Nat.add_zero] at h0
  obtain ⟨m, hm2⟩ : ∃ m, n + 1 = m := ⟨_, rfl⟩
  have HM : Hid (m = n + 1) := hm2.symm
  rw [hm2] at HX hm ⊢
  have j0 : ¬ (m : Int) < 1 := by omega
  have j1 : (0 : Int) < (m : Int) := by omega
  have HZ : Hid (mnL f 0 = f 0) := rfl
  clear hm2
  go_enter Try.func78, Try.ntmps78
  go_wp2
  go_loopw [3, 4] (fun x i wr => ∃ k : Nat, k ≤ n ∧ x = .int .i64 (mnL f k) ∧ i = .int .i64 ((k + 1 : Nat) : Int) ∧ wr = w) (fun _ i _ => n + 1 - (intOf i).toNat)
  case atStart => exact ⟨0, Nat.zero_le _, by rw [HZ.out], by simp, rfl⟩
  case round =>
    obtain ⟨k, hk, rfl, rfl, rfl⟩ := hrel
    have HE := HM.out
    by_cases hkn : k < n
    · obtain ⟨g', o', e1, hc⟩ := HX.out (k + 1) (by omega)
      injection e1 with e1
      injection e1 with e1 e2
      subst e1; subst e2
      have HS : Hid (mnL f (k + 1) = min (mnL f k) (f (k + 1))) := rfl
      obtain ⟨y, hy0⟩ : ∃ y, mnL f (k + 1) = y := ⟨_, rfl⟩
      have HY : Hid (mnL f (k + 1) = y) := hy0
      rw [hy0] at HS
      clear hy0
      generalize mnL f k = a at HS ⊢
      obtain ⟨b, hb⟩ : ∃ b, f (k + 1) = b := ⟨_, rfl⟩
      rw [hb] at hc HS
      clear hb h0
      obtain ⟨q, hq⟩ : ∃ q, k + 1 = q := ⟨_, rfl⟩
      have HQ : Hid (k + 1 = q) := hq
      rw [hq] at hc ⊢
      have i1 : (q : Int) < (m : Int) := by omega
      have i0 : (0 : Int) ≤ (q : Int) := by omega
      clear hq HE
      have hcase : a < b ∨ a = b ∨ b < a := by omega
      rcases hcase with h | h | h
      · have hy : y = a := by rw [HS.out]; omega
        go_wp2
        go_roundw
        case rel => exact ⟨k + 1, by omega, by rw [HY.out, hy], by rw [HQ.out]; go_num, by first | rfl | trivial⟩
        case measure => simp [intOf]; have := HQ.out; have := HM.out; omega
      · subst h
        have hy : y = a := by rw [HS.out]; omega
        go_wp2
        go_roundw
        case rel => exact ⟨k + 1, by omega, by rw [HY.out, hy], by rw [HQ.out]; go_num, by first | rfl | trivial⟩
        case measure => simp [intOf]; have := HQ.out; have := HM.out; omega
      · have hy : y = b := by rw [HS.out]; omega
        go_wp2
        go_roundw
        case rel => exact ⟨k + 1, by omega, by rw [HY.out, hy], by rw [HQ.out]; go_num, by first | rfl | trivial⟩
        case measure => simp [intOf]; have := HQ.out; have := HM.out; omega
    · obtain rfl : n = k := by omega
      have i1 : ¬ ((n + 1 : Nat) : Int) < (m : Int) := by omega
      go_wp2
      go_ret
      exact ⟨rfl, rfl⟩
/-- A place is in the cube. -/
def inK (x : Int) : Bool := decide (-1000 ≤ x) && decide (x ≤ 1000)
/-- Three places in the cube. -/
def thB (L : List Int) : Bool := decide (L.length = 3) && (inK (L.getD 0 0) && (inK (L.getD 1 0) && inK (L.getD 2 0)))
theorem inK_iff {x : Int} : inK x = true ↔ -1000 ≤ x ∧ x ≤ 1000 := by unfold inK; rw [Bool.and_eq_true, decide_eq_true_eq, decide_eq_true_eq]
theorem thB_iff {L : List Int} : thB L = true ↔ L.length = 3 ∧ InC 3 (fun i => L.getD i 0) := by
  unfold thB
  rw [Bool.and_eq_true, Bool.and_eq_true, Bool.and_eq_true, decide_eq_true_eq, inK_iff, inK_iff, inK_iff]
  constructor
  · intro ⟨h, a, b, c⟩
    refine ⟨h, fun i hi => ?_⟩
    have hc : i = 0 ∨ i = 1 ∨ i = 2 := by omega
    rcases hc with rfl | rfl | rfl
    · exact a
    · exact b
    · exact c
  · intro ⟨h, a⟩
    exact ⟨h, a 0 (by omega), a 1 (by omega), a 2 (by omega)⟩
set_option maxHeartbeats 2000000 in
theorem mthree (u : Value) (L : List Int) (w : World) (U : ARow w u L) (hl : L.length ≤ 9223372036854775807) : Calls Try.prog 48 #[u] w fun e w' => e = .returned (.bool (thB L)) ∧ w' = w := by
  by_cases h3 : L.length = 3
  case neg =>
    have hq : thB L = false := by cases h : thB L; rfl; exact absurd (thB_iff.1 h).1 h3
    rw [hq]
    obtain ⟨ad, c, rfl, hx⟩ := U
    clear hx hq
    generalize L.length = n at h3 hl ⊢
    have j1 : ¬ (n : Int) = 3 := by omega
    go_enter Try.func48, Try.ntmps48
    go_wp2
    go_ret
    exact ⟨rfl, rfl⟩
  have HB : Hid (thB L = true ↔ InC 3 (fun i => L.getD i 0)) := ⟨fun h => (thB_iff.1 h).2, fun h => thB_iff.2 ⟨h3, h⟩⟩
  obtain ⟨ad, c, rfl, hx⟩ := U
  rw [h3] at hx ⊢
  generalize thB L = tb at HB ⊢
  have HX : Hid (∀ i, i < 3 → ∃ g o, ad = some ⟨g, o, none⟩ ∧ w.cell? ⟨g, o + i, none⟩ = some (.int .i64 (L.getD i 0))) := hx
  clear hx h3 hl
  generalize hf : (fun i => L.getD i 0) = f at HB
  have HX : Hid (∀ i, i < 3 → ∃ g o, ad = some ⟨g, o, none⟩ ∧ w.cell? ⟨g, o + i, none⟩ = some (.int .i64 (f i))) := by rw [← hf]; exact HX
  clear hf
  go_enter Try.func48, Try.ntmps48
  go_wp2
  go_loopw [10] (fun i wr => ∃ k : Nat, k ≤ 3 ∧ i = .int .i64 k ∧ Hid (InC k f) ∧ wr = w) (fun i _ => 3 - (intOf i).toNat)
  case atStart => exact ⟨0, Nat.zero_le _, rfl, fun i hi => absurd hi (Nat.not_lt_zero _), rfl⟩
  case round =>
    obtain ⟨k, hk, rfl, HI, rfl⟩ := hrel
    by_cases hkn : k < 3
    · obtain ⟨g, o, rfl, hc⟩ := HX.out k hkn
      have i1 : (k : Int) < 3 := by omega
      have i0 : (0 : Int) ≤ (k : Int) := by omega
      have HBk : Hid (tb = true → -1000 ≤ f k ∧ f k ≤ 1000) := fun h => (HB.out.1 h) k hkn
      have HIk : Hid (-1000 ≤ f k → f k ≤ 1000 → InC (k + 1) f) := fun a b i hi => if e : i = k then e ▸ ⟨a, b⟩ else HI.out i (by omega)
      generalize f k = x at hc HBk HIk
      by_cases h1 : -1000 ≤ x
      case neg =>
        obtain rfl : tb = false := by cases tb; rfl; exact absurd (HBk.out rfl).1 h1
        have h2 : x < -1000 := by omega
        clear HB HBk HIk HI
        go_wp2
        go_ret
        exact ⟨rfl, rfl⟩
      have h2 : ¬ x < -1000 := by omega
      by_cases h3 : x ≤ 1000
      case neg =>
        obtain rfl : tb = false := by cases tb; rfl; exact absurd (HBk.out rfl).2 h3
        have h4 : 1000 < x := by omega
        clear HB HBk HIk HI
        go_wp2
        go_ret
        exact ⟨rfl, rfl⟩
      have h4 : ¬ 1000 < x := by omega
      have HN := Hid.mk (HIk.out h1 h3)
      clear HBk HIk HI
      go_wp2
      go_roundw
      case rel => exact ⟨k + 1, by omega, by go_num, HN, by first | rfl | trivial⟩
      case measure => simp [intOf]; omega
    · obtain rfl : k = 3 := by omega
      obtain rfl : tb = true := HB.out.2 HI.out
      have i1 : ¬ ((3 : Nat) : Int) < 3 := by omega
      go_wp2
      go_ret
      exact ⟨rfl, rfl⟩
set_option maxHeartbeats 2000000 in
theorem pthree (u : Value) (L : List Int) (w : World) (U : ARow w u L) (hl : L.length ≤ 9223372036854775807) : Calls Try.prog 50 #[u] w fun e w' => e = .returned (.bool (thB L)) ∧ w' = w := by
  by_cases h3 : L.length = 3
  case neg =>
    have hq : thB L = false := by cases h : thB L; rfl; exact absurd (thB_iff.1 h).1 h3
    rw [hq]
    obtain ⟨ad, c, rfl, hx⟩ := U
    clear hx hq
    generalize L.length = n at h3 hl ⊢
    have j1 : ¬ (n : Int) = 3 := by omega
    go_enter Try.func50, Try.ntmps50
    go_wp2
    go_ret
    exact ⟨rfl, rfl⟩
  have HA := Hid.mk (pmxL u L w U 2 h3 (by omega))
  have HI := Hid.mk (pmnL u L w U 2 h3 (by omega))
  have HB : Hid (thB L = (decide (mxL (fun i => L.getD i 0) 2 ≤ 1000) && decide (-1000 ≤ mnL (fun i => L.getD i 0) 2))) := by
    have h1 : mxL (fun i => L.getD i 0) 2 ≤ 1000 ↔ L.getD 0 0 ≤ 1000 ∧ L.getD 1 0 ≤ 1000 ∧ L.getD 2 0 ≤ 1000 := by simp only [mxL, Nat.reduceAdd]; omega
    have h2 : -1000 ≤ mnL (fun i => L.getD i 0) 2 ↔ -1000 ≤ L.getD 0 0 ∧ -1000 ≤ L.getD 1 0 ∧ -1000 ≤ L.getD 2 0 := by simp only [mnL, Nat.reduceAdd]; omega
    have h4 : thB L = true ↔ (-1000 ≤ L.getD 0 0 ∧ L.getD 0 0 ≤ 1000) ∧ (-1000 ≤ L.getD 1 0 ∧ L.getD 1 0 ≤ 1000) ∧ (-1000 ≤ L.getD 2 0 ∧ L.getD 2 0 ≤ 1000) := by
      rw [thB_iff]
      exact ⟨fun ⟨_, a⟩ => ⟨a 0 (by omega), a 1 (by omega), a 2 (by omega)⟩, fun ⟨a, b, c⟩ => ⟨h3, fun i hi => by
        have hc : i = 0 ∨ i = 1 ∨ i = 2 := by omega
        rcases hc with rfl | rfl | rfl
        · exact a
        · exact b
        · exact c⟩⟩
    show thB L = _
    rw [Bool.eq_iff_iff, Bool.and_eq_true, decide_eq_true_eq, decide_eq_true_eq, h4, h1, h2]
    omega
  rw [HB.out]
  clear HB
  generalize mxL (fun i => L.getD i 0) 2 = a at HA ⊢
  generalize mnL (fun i => L.getD i 0) 2 = b at HI ⊢
  obtain ⟨ad, c, rfl, hx⟩ := U
  rw [h3] at HA HI ⊢
  clear hx h3 hl
  by_cases h1 : a ≤ 1000
  case neg =>
    rw [decide_eq_false h1, Bool.false_and]
    go_enter Try.func50, Try.ntmps50
    go_wp2_with (first | (go_at_call 77; refine HA.out.mono ?_; rintro e w2 ⟨rfl, hw⟩; subst w2))
    go_ret
    exact ⟨rfl, rfl⟩
  rw [decide_eq_true h1, Bool.true_and]
  by_cases h2 : -1000 ≤ b
  · rw [decide_eq_true h2]
    go_enter Try.func50, Try.ntmps50
    go_wp2_with (first | (go_at_call 77; refine HA.out.mono ?_; rintro e w2 ⟨rfl, hw⟩; subst w2) | (go_at_call 78; refine HI.out.mono ?_; rintro e w3 ⟨rfl, hw⟩; subst w3))
    go_ret
    exact ⟨rfl, rfl⟩
  · rw [decide_eq_false h2]
    go_enter Try.func50, Try.ntmps50
    go_wp2_with (first | (go_at_call 77; refine HA.out.mono ?_; rintro e w2 ⟨rfl, hw⟩; subst w2) | (go_at_call 78; refine HI.out.mono ?_; rintro e w3 ⟨rfl, hw⟩; subst w3))
    go_ret
    first | exact ⟨rfl, rfl⟩ | (refine ⟨?_, rfl⟩; simp; omega)
end Go.Proofs.Ytngmaeinehfimaa
