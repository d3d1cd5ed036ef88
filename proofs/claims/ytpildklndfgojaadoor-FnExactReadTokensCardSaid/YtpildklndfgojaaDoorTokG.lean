/- Whether a token is good: the program's goodToken and the model's l3Good; the sizes of a row's texts. -/
import Derived.Test.YtpildklndfgojaaDoorTokR
import Derived.Test.YtpildklndfgojaaDoorNumH
namespace Go.Proofs.YtpildklndfgojaaDoor.Tk
open Go.ChangeShapes Go.WideShapes Go.ChangeAt Go.RowKit
set_option linter.unusedVariables false
/-- Whether a token of kind k and text t is good. -/
def goodK (k : Int) (t : ByteArray) : Bool := if k = 1 then goodB t else if k = 2 then wholeS t.data.toList else if k = 3 then floatS t.data.toList else if k = 4 then isIn (textAt signsL) t 30 else if k = 5 then isIn (textAt wordsL) t 13 else false
set_option maxHeartbeats 1000000 in
theorem good74 (k : Int) (t : ByteArray) (w : World) (hs : t.size ≤ 1048576) (hL : Lb w) :
    Calls Tryd.prog 74 #[.int .i64 k, .string t] w fun r w' => r = .returned (.bool (goodK k t)) ∧ Below w.heap.size w w' := by
  obtain ⟨G, hG⟩ : ∃ G, goodK k t = G := ⟨_, rfl⟩
  rw [hG]
  unfold goodK at hG
  by_cases c1 : k = 1
  · subst c1
    have h := good14 t w hs
    rw [if_pos rfl] at hG
    rw [hG] at h
    clear hG hL
    go_enter Tryd.func74, Tryd.ntmps74
    go_wp2_with (go_at_call 110; refine h.mono ?_; rintro e w1 ⟨rfl, b1⟩)
    go_ret
    exact ⟨rfl, b1⟩
  rw [if_neg c1] at hG
  have d1 : (k == 1) = false := by simp [c1]
  clear c1
  by_cases c1 : k = 2
  · subst c1
    have h := whole111 t w hs hL
    rw [if_pos rfl] at hG
    rw [whole_both, hG] at h
    clear hG hL d1
    go_enter Tryd.func74, Tryd.ntmps74
    go_wp2_with (go_at_call 111; refine h.mono ?_; rintro e w1 ⟨rfl, b1⟩)
    go_ret
    exact ⟨rfl, b1⟩
  rw [if_neg c1] at hG
  have d2 : (k == 2) = false := by simp [c1]
  clear c1
  by_cases c1 : k = 3
  · subst c1
    have h := float79 t w hs hL
    rw [if_pos rfl] at hG
    rw [float_both, hG] at h
    clear hG hL d1 d2
    go_enter Tryd.func74, Tryd.ntmps74
    go_wp2_with (go_at_call 79; refine h.mono ?_; rintro e w1 ⟨rfl, b1⟩)
    go_ret
    exact ⟨rfl, b1⟩
  rw [if_neg c1] at hG
  have d3 : (k == 3) = false := by simp [c1]
  clear c1
  by_cases c1 : k = 4
  · subst c1
    rw [if_pos rfl] at hG
    have h : ∀ w1 : World, (∀ i, i < 30 → w1.cell? ⟨w.heap.size, i, none⟩ = some (.string (textAt signsL i))) → Calls Tryd.prog 112 #[.slice (some ⟨w.heap.size, 0, none⟩) 30 30, .string t] w1 fun r w' => r = .returned (.bool G) ∧ w' = w1 := fun w1 q => by
      rw [← hG]; exact contains25 30 w.heap.size 30 (textAt signsL) t w1 (by omega) q
    have H : Hid (∀ w1 : World, (∀ i, i < 30 → w1.cell? ⟨w.heap.size, i, none⟩ = some (.string (textAt signsL i))) → Calls Tryd.prog 112 #[.slice (some ⟨w.heap.size, 0, none⟩) 30 30, .string t] w1 fun r w' => r = .returned (.bool G) ∧ w' = w1) := h
    clear hG hL d1 d2 d3 h
    go_enter Tryd.func74, Tryd.ntmps74
    go_wp2_with (first | (go_at_call 106; refine (lit12 w).mono ?_; rintro e w1 ⟨rfl, S1, B1⟩) | (go_at_call 112; refine ((Hid.out H) w1 S1.cell).mono ?_; rintro e w' ⟨rfl, hw⟩; subst w'))
    go_ret
    exact ⟨rfl, B1⟩
  rw [if_neg c1] at hG
  have d4 : (k == 4) = false := by simp [c1]
  clear c1
  by_cases c1 : k = 5
  · subst c1
    have h := word19 t w
    rw [if_pos rfl] at hG
    rw [hG] at h
    clear hG hL d1 d2 d3 d4
    go_enter Tryd.func74, Tryd.ntmps74
    go_wp2_with (go_at_call 105; refine h.mono ?_; rintro e w1 ⟨rfl, b1⟩)
    go_ret
    exact ⟨rfl, b1⟩
  rw [if_neg c1] at hG
  have d5 : (k == 5) = false := by simp [c1]
  clear c1 hL
  subst hG
  go_enter Tryd.func74, Tryd.ntmps74
  go_wp2
  go_ret
  exact ⟨rfl, Below.refl _ _⟩
theorem up_alloc {w w1 : World} {o : Obj} (h : Below (w.alloc o).heap.size (w.alloc o) w1) : Below w.heap.size w w1 := step_b ((Below.refl _ _).alloc (Nat.le_refl _) _) h
set_option maxHeartbeats 2000000 in
set_option maxRecDepth 100000 in
theorem sign72 (j : Int) (t : ByteArray) (w : World) (hs : t.size ≤ 1048576) :
    Calls Tryd.prog 72 #[.agg #[.int .i64 4, .string t, .int .i64 j]] w fun r w' => r = .returned (.bool (isIn (textAt signsL) t 30)) ∧ Below w.heap.size w w' := by
  obtain ⟨G, hG⟩ : ∃ G, isIn (textAt signsL) t 30 = G := ⟨_, rfl⟩
  rw [hG]
  have H : Hid (∀ (w1 : World), (∀ i, i < 30 → w1.cell? ⟨w.heap.size + 1, i, none⟩ = some (.string (textAt signsL i))) → Calls Tryd.prog 60 #[.slice (some ⟨w.heap.size + 1, 0, none⟩) 30 30, .string t] w1 fun r w' => r = .returned (.bool G) ∧ w' = w1) := fun w1 q => by
    rw [← hG]; exact in17 30 _ 30 (textAt signsL) t w1 (by omega) q
  have L11 : Hid (∀ wx : World, wx.heap.size = w.heap.size + 1 → wx.cell? ⟨w.heap.size, 1, none⟩ = some (.string t) → Below w.heap.size w wx → Calls Tryd.prog 100 #[] wx fun r w' => r = .returned (.slice (some ⟨w.heap.size + 1, 0, none⟩) 30 30) ∧ Hid (∀ i, i < 30 → w'.cell? ⟨w.heap.size + 1, i, none⟩ = some (.string (textAt signsL i))) ∧ w'.cell? ⟨w.heap.size, 1, none⟩ = some (.string t) ∧ Below w.heap.size w w') := fun wx hz hc hb => by
    refine (lit11 wx).mono ?_
    rintro e w' ⟨he, S, B⟩
    rw [hz] at he S
    exact ⟨he, S.cell, (B.cell (p := ⟨w.heap.size, 1, none⟩) (by show w.heap.size < wx.heap.size; omega)).trans hc, step_b hb B⟩
  clear hG
  go_enter Tryd.func72, Tryd.ntmps72
  go_wp2
  go_region_with (first | (go_at_call 100; refine ((Hid.out L11) _ (by simp) (by simp) (by first | exact (Below.refl _ _).alloc (Nat.le_refl _) _ | exact below_drewN ((Below.refl _ _).alloc (Nat.le_refl _) _) _)).mono ?_; rintro e w1 ⟨rfl, S1, z1, B1⟩) | (go_at_call 60; refine ((Hid.out H) _ (Hid.out S1)).mono ?_; rintro e w' ⟨rfl, hw⟩; subst w'))
  all_goals
    go_wp2
    go_ret
    exact ⟨rfl, B1⟩
set_option maxHeartbeats 2000000 in
set_option maxRecDepth 100000 in
theorem word72 (j : Int) (t : ByteArray) (w : World) (hs : t.size ≤ 1048576) :
    Calls Tryd.prog 72 #[.agg #[.int .i64 5, .string t, .int .i64 j]] w fun r w' => r = .returned (.bool (isIn (textAt wordsL) t 13)) ∧ Below w.heap.size w w' := by
  obtain ⟨G, hG⟩ : ∃ G, isIn (textAt wordsL) t 13 = G := ⟨_, rfl⟩
  rw [hG]
  have H : Hid (∀ (w1 : World), (∀ i, i < 13 → w1.cell? ⟨w.heap.size + 1, i, none⟩ = some (.string (textAt wordsL i))) → Calls Tryd.prog 60 #[.slice (some ⟨w.heap.size + 1, 0, none⟩) 13 13, .string t] w1 fun r w' => r = .returned (.bool G) ∧ w' = w1) := fun w1 q => by
    rw [← hG]; exact in17 13 _ 13 (textAt wordsL) t w1 (by omega) q
  have L11 : Hid (∀ wx : World, wx.heap.size = w.heap.size + 1 → wx.cell? ⟨w.heap.size, 1, none⟩ = some (.string t) → Below w.heap.size w wx → Calls Tryd.prog 61 #[] wx fun r w' => r = .returned (.slice (some ⟨w.heap.size + 1, 0, none⟩) 13 13) ∧ Hid (∀ i, i < 13 → w'.cell? ⟨w.heap.size + 1, i, none⟩ = some (.string (textAt wordsL i))) ∧ w'.cell? ⟨w.heap.size, 1, none⟩ = some (.string t) ∧ Below w.heap.size w w') := fun wx hz hc hb => by
    refine (lit6 wx).mono ?_
    rintro e w' ⟨he, S, B⟩
    rw [hz] at he S
    exact ⟨he, S.cell, (B.cell (p := ⟨w.heap.size, 1, none⟩) (by show w.heap.size < wx.heap.size; omega)).trans hc, step_b hb B⟩
  clear hG
  go_enter Tryd.func72, Tryd.ntmps72
  go_wp2
  go_region_with (first | (go_at_call 61; refine ((Hid.out L11) _ (by simp) (by simp) (by first | exact (Below.refl _ _).alloc (Nat.le_refl _) _ | exact below_drewN ((Below.refl _ _).alloc (Nat.le_refl _) _) _)).mono ?_; rintro e w1 ⟨rfl, S1, z1, B1⟩) | (go_at_call 60; refine ((Hid.out H) _ (Hid.out S1)).mono ?_; rintro e w' ⟨rfl, hw⟩; subst w'))
  all_goals
    go_wp2
    go_ret
    exact ⟨rfl, B1⟩
set_option maxHeartbeats 2000000 in
set_option maxRecDepth 100000 in
theorem good72 (k j : Int) (t : ByteArray) (w : World) (hs : t.size ≤ 1048576) :
    Calls Tryd.prog 72 #[.agg #[.int .i64 k, .string t, .int .i64 j]] w fun r w' => r = .returned (.bool (goodK k t)) ∧ Below w.heap.size w w' := by
  obtain ⟨G, hG⟩ : ∃ G, goodK k t = G := ⟨_, rfl⟩
  rw [hG]
  unfold goodK at hG
  by_cases c1 : k = 1
  · subst c1
    have h := fun w => good13 t w hs
    rw [if_pos rfl] at hG
    rw [hG] at h
    clear hG
    go_enter Tryd.func72, Tryd.ntmps72
    go_wp2_with (go_at_call 109; refine (h _).mono ?_; rintro e w1 ⟨rfl, b1⟩)
    go_ret
    exact ⟨rfl, up_alloc b1⟩
  rw [if_neg c1] at hG
  have d1 : (k == 1) = false := by simp [c1]
  clear c1
  by_cases c1 : k = 2
  · subst c1
    have h := fun w => whole56 t w hs
    rw [if_pos rfl] at hG
    rw [hG] at h
    clear hG d1
    go_enter Tryd.func72, Tryd.ntmps72
    go_wp2_with (go_at_call 56; refine (h _).mono ?_; rintro e w1 ⟨rfl, hw⟩; subst w1)
    go_ret
    exact ⟨rfl, up_alloc (Below.refl _ _)⟩
  rw [if_neg c1] at hG
  have d2 : (k == 2) = false := by simp [c1]
  clear c1
  by_cases c1 : k = 3
  · subst c1
    have h := fun w => float57 t w hs
    rw [if_pos rfl] at hG
    rw [hG] at h
    clear hG d1 d2
    go_enter Tryd.func72, Tryd.ntmps72
    go_wp2_with (go_at_call 57; refine (h _).mono ?_; rintro e w1 ⟨rfl, hw⟩; subst w1)
    go_ret
    exact ⟨rfl, up_alloc (Below.refl _ _)⟩
  rw [if_neg c1] at hG
  have d3 : (k == 3) = false := by simp [c1]
  clear c1
  by_cases c1 : k = 4
  · subst c1
    rw [if_pos rfl] at hG
    rw [← hG]
    exact sign72 j t w hs
  rw [if_neg c1] at hG
  have d4 : (k == 4) = false := by simp [c1]
  clear c1
  by_cases c1 : k = 5
  · subst c1
    rw [if_pos rfl] at hG
    rw [← hG]
    exact word72 j t w hs
  rw [if_neg c1] at hG
  have d5 : (k == 5) = false := by simp [c1]
  clear c1
  subst hG
  go_enter Tryd.func72, Tryd.ntmps72
  go_wp2
  go_ret
  exact ⟨rfl, up_alloc (Below.refl _ _)⟩
set_option maxRecDepth 100000 in
set_option maxHeartbeats 1000000 in
theorem szT (n b off cap : Nat) (K : Nat → Int) (T : Nat → ByteArray) (J : Nat → Int) (w : World) (hn : n ≤ 9223372036854775807) (hT : ∀ i, (T i).size ≤ 9223372036854775807) (hb : b < w.heap.size) (hc : ∀ i, i < n → w.cell? ⟨b, off + i * 3, none⟩ = some (.int .i64 (K i)) ∧ w.cell? ⟨b, off + i * 3 + 1, none⟩ = some (.string (T i)) ∧ w.cell? ⟨b, off + i * 3 + 2, none⟩ = some (.int .i64 (J i))) :
    Calls Tryd.prog 23 #[.slice (some ⟨b, off, none⟩) n cap, .int .i64 1048576] w fun r w' => (∃ z : Int, r = .returned (.int .i64 z) ∧ (z < 0 ∨ 0 ≤ z ∧ n ≤ 1048576 ∧ ∀ i, i < n → (T i).size ≤ 1048576)) ∧ Below w.heap.size w w' := by
  by_cases big : 1048576 < n
  · have h : (1048576 : Int) - (n : Int) < 0 := by omega
    go_enter Tryd.func23, Tryd.ntmps23
    go_wp2
    go_ret
    exact ⟨⟨-1, rfl, Or.inl (by decide)⟩, Below.refl _ _⟩
  have h : 0 ≤ (1048576 : Int) - (n : Int) := by omega
  go_enter Tryd.func23, Tryd.ntmps23
  go_wp2
  go_loopw [1, 5] (fun l i wr => ∃ (k : Nat) (z : Int), k ≤ n ∧ i = .int .i64 k ∧ l = .int .i64 z ∧ 0 ≤ z ∧ z ≤ 1048576 ∧ Hid (∀ j, j < k → (T j).size ≤ 1048576) ∧ Below w.heap.size w wr) (fun _ i _ => n - (intOf i).toNat)
  case atStart => exact ⟨0, _, by omega, rfl, rfl, by omega, by omega, (fun j hj => absurd hj (Nat.not_lt_zero _)), Below.refl _ _⟩
  case round =>
    obtain ⟨k, z, hk, rfl, rfl, z0, z1, HT, B⟩ := hrel
    by_cases hkn : k < n
    · have i1 : (k : Int) < (n : Int) := by omega
      have i0 : (0 : Int) ≤ (k : Int) := by omega
      have c0 : wr.cell? ⟨b, off + k * 3, none⟩ = some (.int .i64 (K k)) := (B.cell (p := ⟨b, off + k * 3, none⟩) hb).trans (hc k hkn).1
      have c1 : wr.cell? ⟨b, off + k * 3 + 1, none⟩ = some (.string (T k)) := (B.cell (p := ⟨b, off + k * 3 + 1, none⟩) hb).trans (hc k hkn).2.1
      have c2 : wr.cell? ⟨b, off + k * 3 + 2, none⟩ = some (.int .i64 (J k)) := (B.cell (p := ⟨b, off + k * 3 + 2, none⟩) hb).trans (hc k hkn).2.2
      have hs := szNode (K k) (J k) z (T k) wr z0 z1 (hT k)
      have HS : Hid (Calls Tryd.prog 71 #[.agg #[.int .i64 (K k), .string (T k), .int .i64 (J k)], .int .i64 z] wr fun r w' => (∃ y : Int, r = .returned (.int .i64 y) ∧ (y = -1 ∨ 0 ≤ y ∧ y = z - ((T k).size : Int))) ∧ Below wr.heap.size wr w') := hs
      clear hs
      go_wp2_with (go_at_call 71; refine (Hid.out HS).mono ?_; rintro e w2 ⟨⟨y, rfl, hy⟩, B2⟩)
      · go_ret
        exact ⟨⟨-1, rfl, Or.inl (by decide)⟩, B.trans (B2.mono B.size)⟩
      · exact ⟨⟨k + 1, y, by omega, by go_num, rfl, by omega, by omega, (fun j hj => by
          by_cases e : j = k
          · subst e; omega
          · exact HT.out j (by omega)), B.trans (B2.mono B.size)⟩, by simp [intOf]; omega⟩
    · have hkk : k = n := by omega
      subst hkk
      go_wp2
      go_ret
      exact ⟨⟨_, rfl, Or.inr ⟨z0, by omega, HT.out⟩⟩, B⟩
theorem argT {w : World} {a : Option Addr} {n : Nat} {K J : Nat → Int} {T : Nat → ByteArray} (h : Arg3 w a n K T J) (cap : Nat) (hn : n ≤ 9223372036854775807) (hT : ∀ i, (T i).size ≤ 9223372036854775807) :
    Calls Tryd.prog 23 #[.slice a n cap, .int .i64 1048576] w fun r w' => (∃ z : Int, r = .returned (.int .i64 z) ∧ (z < 0 ∨ 0 ≤ z ∧ n ≤ 1048576 ∧ ∀ i, i < n → (T i).size ≤ 1048576)) ∧ Below w.heap.size w w' := by
  rcases h with rfl | ⟨b, off, rfl, hl, hc⟩
  · exact (szN0 a cap w).mono fun e w' ⟨⟨z, h1, h2⟩, h3⟩ => ⟨⟨z, h1, h2.imp id fun q => ⟨q.1, by omega, fun i hi => absurd hi (Nat.not_lt_zero _)⟩⟩, h3⟩
  · exact szT n b off cap K T J w hn hT hl hc
end Go.Proofs.YtpildklndfgojaaDoor.Tk
