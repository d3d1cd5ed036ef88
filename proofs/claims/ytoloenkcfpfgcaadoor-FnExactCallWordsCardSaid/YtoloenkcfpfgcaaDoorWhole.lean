/- Contracts of the program's WholeOf and of what it calls last, as plain whole numbers; conditions: words of 32 bits, the table of forms as the program lays it. -/
import Derived.Test.YtoloenkcfpfgcaaDoorCut
namespace Go.Proofs.YtoloenkcfpfgcaaDoor
open Go.ChangeShapes Go.WideShapes Go.ChangeAt Go.RowKit
/-- Whether a mode takes the next one away from 0. -/
def goesB (mode : Int) (neg : Bool) (kept cut : Int) : Bool :=
  if mode = 0 then (cut == 3 || (cut == 2 && kept % 2 == 1)) else if mode = 1 then decide (2 ≤ cut)
  else if mode = 3 then (cut != 0 && !neg) else if mode = 4 then (cut != 0 && neg) else false
set_option maxHeartbeats 1000000 in
theorem goesAway_any (mode : Int) (neg : Bool) (kept cut : Int) (h0 : 0 ≤ kept) (h1 : kept < 18446744073709551616) (hc : cut = 0 ∨ cut = 1 ∨ cut = 2 ∨ cut = 3) (w : World) :
    Calls Tryd.prog 76 #[.int .i64 mode, .bool neg, .int .u64 kept, .int .i64 cut] w fun e w' => e = .returned (.bool (goesB mode neg kept cut)) ∧ w' = w := by
  obtain ⟨r, hr⟩ : ∃ r, goesB mode neg kept cut = r := ⟨_, rfl⟩
  rw [hr]
  unfold goesB at hr
  by_cases m0 : mode = 0
  · rw [if_pos m0] at hr
    by_cases ko : kept % 2 = 1
    all_goals
      rcases hc with rfl | rfl | rfl | rfl
      all_goals
        simp [ko] at hr
        subst hr
        go_enter Tryd.func76, Tryd.ntmps76
        go_wp2
        go_ret
        exact ⟨rfl, rfl⟩
  rw [if_neg m0] at hr
  by_cases m1 : mode = 1
  · rw [if_pos m1] at hr
    rcases hc with rfl | rfl | rfl | rfl
    all_goals
      simp at hr
      subst hr
      go_enter Tryd.func76, Tryd.ntmps76
      go_wp2
      go_ret
      exact ⟨rfl, rfl⟩
  rw [if_neg m1] at hr
  by_cases m3 : mode = 3
  · rw [if_pos m3] at hr
    rcases hc with rfl | rfl | rfl | rfl
    all_goals
      cases neg
      all_goals
        simp at hr
        subst hr
        go_enter Tryd.func76, Tryd.ntmps76
        go_wp2
        go_ret
        exact ⟨rfl, rfl⟩
  rw [if_neg m3] at hr
  by_cases m4 : mode = 4
  · rw [if_pos m4] at hr
    rcases hc with rfl | rfl | rfl | rfl
    all_goals
      cases neg
      all_goals
        simp at hr
        subst hr
        go_enter Tryd.func76, Tryd.ntmps76
        go_wp2
        go_ret
        exact ⟨rfl, rfl⟩
  rw [if_neg m4] at hr
  subst hr
  go_enter Tryd.func76, Tryd.ntmps76
  go_wp2
  go_ret
  exact ⟨rfl, rfl⟩

/-- A size with its sign, kept within 32 bits. -/
def wholeI (z : Int) (neg : Bool) : Int := if neg then (if 2147483648 < z then -2147483648 else -z) else (if 2147483647 < z then 2147483647 else z)
theorem wholeWithSign_any (z : Int) (neg : Bool) (h0 : 0 ≤ z) (h1 : z < 9223372036854775808) (w : World) :
    Calls Tryd.prog 80 #[.int .u64 z, .bool neg] w fun e w' => e = .returned (.int .i64 (wholeI z neg)) ∧ w' = w := by
  obtain ⟨r, hr⟩ : ∃ r, wholeI z neg = r := ⟨_, rfl⟩
  rw [hr]
  cases neg
  · by_cases k : 2147483647 < z
    · have hr' : r = 2147483647 := by rw [← hr]; simp [wholeI, k]
      clear hr; subst hr'
      go_enter Tryd.func80, Tryd.ntmps80
      go_wp2
      go_ret
      exact ⟨rfl, rfl⟩
    · have hr' : r = z := by rw [← hr]; simp [wholeI, k]
      clear hr; subst hr'
      go_enter Tryd.func80, Tryd.ntmps80
      go_wp2
      go_ret
      exact ⟨rfl, rfl⟩
  · by_cases k : 2147483648 < z
    · have hr' : r = -2147483648 := by rw [← hr]; simp [wholeI, k]
      clear hr; subst hr'
      go_enter Tryd.func80, Tryd.ntmps80
      go_wp2
      go_ret
      exact ⟨rfl, rfl⟩
    · have hr' : r = -z := by rw [← hr]; simp [wholeI, k]
      clear hr; subst hr'
      go_enter Tryd.func80, Tryd.ntmps80
      go_wp2
      go_ret
      exact ⟨rfl, rfl⟩

theorem exS_bd (r : Int) (h : 0 ≤ r) : 0 ≤ exS r ∧ exS r < 16777216 := by unfold exS; split <;> omega
theorem exP_bd (r : Int) (h : 0 ≤ r) (h1 : r ≤ 2139095040) : -149 ≤ exP r ∧ exP r ≤ 105 := by unfold exP; split <;> omega

theorem whole_bad (a mode : Int) (hm : ¬ (0 ≤ mode ∧ mode ≤ 4)) (w : World) :
    Calls Tryd.prog 57 #[.int .u32 a, .int .i64 mode] w fun e w' => e = .returned (.int .i64 0) ∧ Below w.heap.size w w' := by
  go_enter Tryd.func57, Tryd.ntmps57
  go_wp2_with (go_at_call 48; refine (goodMode_any _ _).mono ?_; rintro e w' ⟨rfl, rfl⟩)
  go_ret
  exact ⟨rfl, Below.refl _ _⟩
theorem whole_nan (a mode : Int) (h0 : 0 ≤ a) (h1 : a < 4294967296) (hm : 0 ≤ mode ∧ mode ≤ 4) (hk : kindI (a % 2147483648) = 3) (w : World) (G : Forms w) :
    Calls Tryd.prog 57 #[.int .u32 a, .int .i64 mode] w fun e w' => e = .returned (.int .i64 0) ∧ Below w.heap.size w w' := by
  go_enter Tryd.func57, Tryd.ntmps57
  go_wp2_with (first | (go_at_call 48; refine (goodMode_any _ _).mono ?_; rintro e w' ⟨rfl, rfl⟩) | (go_at_call 46; refine (kindOf_w _ h0 h1 _ G).mono ?_; rintro e w' ⟨rfl, rfl⟩))
  go_ret
  exact ⟨rfl, Below.refl _ _⟩

set_option maxHeartbeats 1000000 in
theorem whole_far (a mode : Int) (h0 : 0 ≤ a) (h1 : a < 4294967296) (hm : 0 ≤ mode ∧ mode ≤ 4) (hk : ¬ kindI (a % 2147483648) = 3) (w : World) (G : Forms w)
    (S P : Int) (hS : exS (a % 2147483648) = S) (hP : exP (a % 2147483648) = P) (hp : 32 ≤ P) :
    Calls Tryd.prog 57 #[.int .u32 a, .int .i64 mode] w fun e w' => e = .returned (.int .i64 (wholeI 2147483648 (decide (2147483648 ≤ a)))) ∧ Below w.heap.size w w' := by
  go_enter Tryd.func57, Tryd.ntmps57
  go_wp2_with (first | (go_at_call 48; refine (goodMode_any _ _).mono ?_; rintro e w' ⟨rfl, rfl⟩) | (go_at_call 46; refine (kindOf_w _ h0 h1 _ G).mono ?_; rintro e w' ⟨rfl, rfl⟩) | (go_at_call 53; refine (exactOf_w _ h0 h1 _ G).mono ?_; rintro e w' ⟨rfl, hb⟩; have hz := hb.size) | (go_at_call 80; refine (wholeWithSign_any _ _ (by decide) (by decide) _).mono ?_; rintro e w' ⟨rfl, rfl⟩))
  go_ret
  exact ⟨rfl, hb.alloc hz _⟩

set_option maxHeartbeats 1000000 in
theorem whole_up (a mode : Int) (h0 : 0 ≤ a) (h1 : a < 4294967296) (hm : 0 ≤ mode ∧ mode ≤ 4) (hk : ¬ kindI (a % 2147483648) = 3) (w : World) (G : Forms w)
    (S P K : Int) (hS : exS (a % 2147483648) = S) (hP : exP (a % 2147483648) = P) (hp0 : 0 ≤ P) (hp : P < 32) (hK : S * 2 ^ P.toNat % 18446744073709551616 = K) (k0 : 0 ≤ K) (k1 : K < 9223372036854775807) :
    Calls Tryd.prog 57 #[.int .u32 a, .int .i64 mode] w fun e w' => e = .returned (.int .i64 (wholeI K (decide (2147483648 ≤ a)))) ∧ Below w.heap.size w w' := by
  have hg : goesB mode (decide (2147483648 ≤ a)) K 0 = false := by unfold goesB; split <;> simp
  go_enter Tryd.func57, Tryd.ntmps57
  go_wp2_with (first | (go_at_call 48; refine (goodMode_any _ _).mono ?_; rintro e w' ⟨rfl, rfl⟩) | (go_at_call 46; refine (kindOf_w _ h0 h1 _ G).mono ?_; rintro e w' ⟨rfl, rfl⟩) | (go_at_call 53; refine (exactOf_w _ h0 h1 _ G).mono ?_; rintro e w' ⟨rfl, hb⟩; have hz := hb.size) | (go_at_call 75; refine (cutBits_up _ _ _ _ _ (by omega) (by omega) _).mono ?_; rintro e w' ⟨rfl, hb2⟩; obtain ⟨hc, hf⟩ := bcell hb2; have hz2 := hb2.size) | (go_at_call 76; refine (goesAway_any _ _ _ _ (by omega) (by omega) (by omega) _).mono ?_; rintro e w' ⟨rfl, rfl⟩) | (go_at_call 80; refine (wholeWithSign_any _ _ (by omega) (by omega) _).mono ?_; rintro e w' ⟨rfl, rfl⟩))
  go_ret
  exact ⟨rfl, (hb.alloc hz _).trans (hb2.mono (by simp; omega))⟩

theorem cutI_cases (r M : Int) (m : Bool) : cutI r M m = 0 ∨ cutI r M m = 1 ∨ cutI r M m = 2 ∨ cutI r M m = 3 := by
  unfold cutI; split
  · omega
  · split
    · omega
    · split <;> omega

set_option maxHeartbeats 1000000 in
theorem whole_dn (a mode : Int) (h0 : 0 ≤ a) (h1 : a < 4294967296) (hm : 0 ≤ mode ∧ mode ≤ 4) (hk : ¬ kindI (a % 2147483648) = 3) (w : World) (G : Forms w)
    (S P K c : Int) (g : Bool) (hS : exS (a % 2147483648) = S) (hP : exP (a % 2147483648) = P) (s0 : 0 ≤ S) (s1 : S < 16777216) (hp : P < 0) (hp' : -149 ≤ P) (hK : S / 2 ^ (-P).toNat = K) (k0 : 0 ≤ K) (k1 : K ≤ S)
    (hc : cutI (S % 2 ^ (-P).toNat) (2 ^ ((-P).toNat - 1)) false = c) (hg : goesB mode (decide (2147483648 ≤ a)) K c = g) :
    Calls Tryd.prog 57 #[.int .u32 a, .int .i64 mode] w fun e w' => e = .returned (.int .i64 (wholeI (if g then K + 1 else K) (decide (2147483648 ≤ a)))) ∧ Below w.heap.size w w' := by
  have hcc : c = 0 ∨ c = 1 ∨ c = 2 ∨ c = 3 := by have := cutI_cases (S % 2 ^ (-P).toNat) (2 ^ ((-P).toNat - 1)) false; rw [hc] at this; exact this
  have hnp : ¬ 32 ≤ P := by omega
  cases g
  all_goals
    go_enter Tryd.func57, Tryd.ntmps57
    go_wp2_with (first | (go_at_call 48; refine (goodMode_any _ _).mono ?_; rintro e w' ⟨rfl, rfl⟩) | (go_at_call 46; refine (kindOf_w _ h0 h1 _ G).mono ?_; rintro e w' ⟨rfl, rfl⟩) | (go_at_call 53; refine (exactOf_w _ h0 h1 _ G).mono ?_; rintro e w' ⟨rfl, hb⟩; have hz := hb.size) | (go_at_call 75; refine (cutBits_dn _ _ _ _ _ (by omega) (by omega) (by omega) (by omega) _).mono ?_; rintro e w' ⟨rfl, hb2⟩; obtain ⟨hc2, hf2⟩ := bcell hb2; have hz2 := hb2.size) | (go_at_call 76; refine (goesAway_any _ _ _ _ (by omega) (by omega) hcc _).mono ?_; rintro e w' ⟨rfl, rfl⟩) | (go_at_call 80; refine (wholeWithSign_any _ _ (by omega) (by omega) _).mono ?_; rintro e w' ⟨rfl, rfl⟩))
    go_ret
    exact ⟨rfl, (hb.alloc hz _).trans (hb2.mono (by simp; omega))⟩
end Go.Proofs.YtoloenkcfpfgcaaDoor
