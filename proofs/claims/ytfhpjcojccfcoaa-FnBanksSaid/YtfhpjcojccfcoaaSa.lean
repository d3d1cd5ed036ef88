/- Small functions of both sides: powers of two, ways, policies, places; what is asked of each number of a row. -/
import Derived.Test.YtfhpjcojccfcoaaCc
namespace Go.Proofs.Ytfhpjcojccfcoaa
open Go.ChangeShapes Go.WideShapes Go.ChangeAt Go.RowKit
set_option linter.unusedVariables false
def pw2 (n : Int) : Bool := bits .and .i64 n (n - 1) == 0
/-- A power of two from lo to hi. -/
def pwB (n lo hi : Int) : Bool := decide (lo ≤ n) && decide (n ≤ hi) && pw2 n
theorem pwB_iff {n lo hi : Int} (h : pwB n lo hi = true) : lo ≤ n ∧ n ≤ hi := by
  unfold pwB at h
  simp only [Bool.and_eq_true, decide_eq_true_eq] at h
  exact h.1
theorem mpower (n lo hi : Int) (w : World) (h1 : 1 ≤ lo) (h2 : hi ≤ 256) : Calls Try.prog 53 #[.int .i64 n, .int .i64 lo, .int .i64 hi] w fun e w' => e = .returned (.bool (pwB n lo hi)) ∧ w' = w := by
  unfold pwB
  by_cases c1 : lo ≤ n
  case neg =>
    have l1 : n < lo := by omega
    rw [decide_eq_false c1]
    clear c1
    go_enter Try.func53, Try.ntmps53
    go_wp2
    go_ret
    exact ⟨rfl, rfl⟩
  by_cases c2 : n ≤ hi
  case neg =>
    have l2 : hi < n := by omega
    rw [decide_eq_true c1, decide_eq_false c2]
    clear c2
    go_enter Try.func53, Try.ntmps53
    go_wp2
    go_ret
    exact ⟨rfl, rfl⟩
  rw [decide_eq_true c1, decide_eq_true c2]
  have e : 1 ≤ n := by omega
  have e2 : n ≤ 256 := by omega
  unfold pw2
  go_enter Try.func53, Try.ntmps53
  go_wp2
  go_ret
  exact ⟨rfl, rfl⟩
theorem ppower (n lo hi : Int) (w : World) (h1 : 1 ≤ lo) (h2 : hi ≤ 256) : Calls Try.prog 49 #[.int .i64 n, .int .i64 lo, .int .i64 hi] w fun e w' => e = .returned (.bool (pwB n lo hi)) ∧ w' = w := by
  unfold pwB
  by_cases c1 : lo ≤ n
  case neg =>
    have l1 : n < lo := by omega
    rw [decide_eq_false c1]
    clear c1
    go_enter Try.func49, Try.ntmps49
    go_wp2
    go_ret
    exact ⟨rfl, rfl⟩
  by_cases c2 : n ≤ hi
  case neg =>
    have l2 : hi < n := by omega
    rw [decide_eq_true c1, decide_eq_false c2]
    clear c2
    go_enter Try.func49, Try.ntmps49
    go_wp2
    go_ret
    exact ⟨rfl, rfl⟩
  rw [decide_eq_true c1, decide_eq_true c2]
  have e : 1 ≤ n := by omega
  have e2 : n ≤ 256 := by omega
  unfold pw2
  go_enter Try.func49, Try.ntmps49
  go_wp2
  go_ret
  exact ⟨rfl, rfl⟩
theorem mpolicy (n : Int) (w : World) : Calls Try.prog 55 #[.int .i64 n] w fun e w' => e = .returned (.bool (decide (1 ≤ n) && decide (n ≤ 3))) ∧ w' = w := by
  by_cases c1 : 1 ≤ n
  case neg =>
    have l1 : n < 1 := by omega
    rw [decide_eq_false c1]
    clear c1
    go_enter Try.func55, Try.ntmps55
    go_wp2
    go_ret
    exact ⟨rfl, rfl⟩
  rw [decide_eq_true c1]
  go_enter Try.func55, Try.ntmps55
  go_wp2
  go_ret
  exact ⟨rfl, rfl⟩
theorem pways (n : Int) (w : World) : Calls Try.prog 61 #[.int .i64 n] w fun e w' => e = .returned (.bool (decide (1 ≤ n) && decide (n ≤ 8))) ∧ w' = w := by
  by_cases c1 : 1 ≤ n
  case neg =>
    have l1 : n < 1 := by omega
    rw [decide_eq_false c1]
    clear c1
    go_enter Try.func61, Try.ntmps61
    go_wp2
    go_ret
    exact ⟨rfl, rfl⟩
  rw [decide_eq_true c1]
  go_enter Try.func61, Try.ntmps61
  go_wp2
  go_ret
  exact ⟨rfl, rfl⟩
theorem pacc (n : Int) (w : World) : Calls Try.prog 65 #[.int .i64 n] w fun e w' => e = .returned (.bool (decide (0 ≤ n) && decide (n ≤ 1000000))) ∧ w' = w := by
  by_cases c1 : 0 ≤ n
  case neg =>
    have l1 : n < 0 := by omega
    rw [decide_eq_false c1]
    clear c1
    go_enter Try.func65, Try.ntmps65
    go_wp2
    go_ret
    exact ⟨rfl, rfl⟩
  rw [decide_eq_true c1]
  go_enter Try.func65, Try.ntmps65
  go_wp2
  go_ret
  exact ⟨rfl, rfl⟩
def accI (x : Int) : Bool := decide (0 ≤ x) && decide (x ≤ 1000000)
/-- Places that may be read. -/
def accB (l : List Int) : Bool := decide (l.length ≤ 200) && l.all accI
theorem all_getD {l : List Int} {p : Int → Bool} : l.all p = true ↔ ∀ i, i < l.length → p (l.getD i 0) = true := by
  rw [List.all_eq_true]
  constructor
  · intro h i hi
    exact h _ (by simp [List.getD, hi])
  · intro h x hx
    obtain ⟨i, hi, rfl⟩ := List.getElem_of_mem hx
    have := h i hi
    simpa [List.getD, hi] using this
theorem all_false {l : List Int} {p : Int → Bool} {i : Nat} (hi : i < l.length) (h : p (l.getD i 0) = false) : l.all p = false := by
  cases e : l.all p
  · rfl
  · rw [all_getD.1 e i hi] at h; cases h
theorem accB_at {l : List Int} (h : accB l = true) : l.length ≤ 200 ∧ ∀ i, i < l.length → 0 ≤ l.getD i 0 ∧ l.getD i 0 ≤ 1000000 := by
  unfold accB at h
  rw [Bool.and_eq_true, decide_eq_true_eq, all_getD] at h
  refine ⟨h.1, fun i hi => ?_⟩
  have := h.2 i hi
  unfold accI at this
  simpa using this
set_option maxRecDepth 100000 in
set_option maxHeartbeats 2000000 in
theorem mplaces (l : List Int) (v : Value) (w : World) (Q : ARow w v l) : Calls Try.prog 46 #[v] w fun e w' => e = .returned (.bool (accB l)) ∧ w' = w := by
  obtain ⟨oa, oc, rfl, hoa⟩ := Q
  obtain ⟨B, hB⟩ : ∃ B, accB l = B := ⟨_, rfl⟩
  have HB : Hid (accB l = B) := hB
  rw [hB]
  clear hB
  by_cases big : 200 < l.length
  · have b1 : (200 : Int) < (l.length : Int) := by omega
    have HF : Hid (B = false) := by
      show _ = _
      rw [← HB.out]; unfold accB; rw [decide_eq_false (by omega)]; rfl
    go_enter Try.func46, Try.ntmps46
    go_wp2
    go_ret
    exact ⟨by rw [HF.out]; rfl, rfl⟩
  have b1 : ¬ (200 : Int) < (l.length : Int) := by omega
  have HE : Hid (B = l.all accI) := by show _ = _; rw [← HB.out]; unfold accB; rw [decide_eq_true (by omega)]; rfl
  have HOA := Hid.mk hoa
  have HF : Hid (∀ i, i < l.length → accI (l.getD i 0) = false → B = false) := fun i hi h => by rw [HE.out]; exact all_false hi h
  have HT : Hid ((∀ i, i < l.length → accI (l.getD i 0) = true) → B = true) := fun h => by rw [HE.out]; exact all_getD.2 h
  clear hoa HB HE
  obtain ⟨n, hn⟩ : ∃ n, l.length = n := ⟨_, rfl⟩
  rw [hn] at HOA HF HT b1 ⊢
  have n2 : n ≤ 200 := by omega
  clear hn
  go_enter Try.func46, Try.ntmps46
  go_wp2
  go_loop [10] (fun i => ∃ k : Nat, k ≤ n ∧ i = .int .i64 k ∧ Hid (∀ i, i < k → accI (l.getD i 0) = true)) (fun i => n - (intOf i).toNat)
  case atStart => exact ⟨0, Nat.zero_le _, rfl, fun i hi => by omega⟩
  case round =>
    obtain ⟨k, hk, rfl, HK⟩ := hrel
    by_cases hkn : k < n
    · have i1 : (k : Int) < (n : Int) := by omega
      have i0 : (0 : Int) ≤ (k : Int) := by omega
      obtain ⟨g, o, rfl, hc⟩ := HOA.out k hkn
      have HN : Hid (accI (l.getD k 0) = true → ∀ i, i < k + 1 → accI (l.getD i 0) = true) := fun h i hi => by
        by_cases e : i = k
        · subst e; exact h
        · exact HK.out i (by omega)
      have HG := Hid.mk (HF.out k hkn)
      generalize l.getD k 0 = x at hc HN HG
      have HA : Hid (accI x = (decide (0 ≤ x) && decide (x ≤ 1000000))) := rfl
      by_cases x0 : 0 ≤ x
      · have x1 : ¬ x < 0 := by omega
        by_cases x2 : x ≤ 1000000
        · have x3 : ¬ 1000000 < x := by omega
          have HN2 := Hid.mk (HN.out (by rw [HA.out, decide_eq_true x0, decide_eq_true x2]; rfl))
          clear HN HG HA HK
          go_wp2
          go_round
          case rel => exact ⟨k + 1, by omega, by go_num, HN2⟩
          case measure => simp [intOf]; omega
        · have x3 : 1000000 < x := by omega
          have HG2 := Hid.mk (HG.out (by rw [HA.out, decide_eq_false x2, Bool.and_false]))
          clear x2 HN HG HA HK
          go_wp2
          go_ret
          exact ⟨by rw [HG2.out]; rfl, rfl⟩
      · have x1 : x < 0 := by omega
        have HG2 := Hid.mk (HG.out (by rw [HA.out, decide_eq_false x0]; rfl))
        clear x0 HN HG HA HK
        go_wp2
        go_ret
        exact ⟨by rw [HG2.out]; rfl, rfl⟩
    · obtain rfl : n = k := by omega
      have i1 : ¬ (n : Int) < (n : Int) := by omega
      have HT2 := Hid.mk (HT.out HK.out)
      go_wp2
      go_ret
      exact ⟨by rw [HT2.out]; rfl, rfl⟩
/-- A place tells whether there is one. -/
def IxB (z : Int) (b : Bool) : Prop := decide (0 ≤ z) = b
set_option maxRecDepth 100000 in
set_option maxHeartbeats 2000000 in
theorem acci (l : List Int) (v : Value) (p : Int → Bool) (w : World) (Q : ARow w v l) (hn : l.length ≤ 1048576)
    (hp : ∀ x, x ∈ l → ∀ w', Below w.heap.size w w' → Calls Try.prog 71 #[.int .i64 x] w' fun e w'' => e = .returned (.bool (p x)) ∧ Below w'.heap.size w' w'') : Calls Try.prog 75 #[v, .func (.func 71) #[] #[]] w fun e w' => (∃ z, e = .returned (.int .i64 z) ∧ IxB z (l.any p)) ∧ Below w.heap.size w w' := by
  obtain ⟨oa, oc, rfl, hoa⟩ := Q
  obtain ⟨B, hB⟩ : ∃ B, l.any p = B := ⟨_, rfl⟩
  have HT : Hid (∀ i, i < l.length → p (l.getD i 0) = true → B = true) := fun i hi h => by rw [← hB, List.any_eq_true]; exact ⟨_, by simp [List.getD, hi], h⟩
  have HF : Hid ((∀ i, i < l.length → p (l.getD i 0) = false) → B = false) := fun h => by
    rw [← hB, List.any_eq_false]
    intro x hx
    obtain ⟨i, hi, rfl⟩ := List.getElem_of_mem hx
    have := h i hi
    rw [show l.getD i 0 = l[i] by simp [List.getD, hi]] at this
    rw [this]
    exact Bool.false_ne_true
  rw [hB]
  have HOA := Hid.mk hoa
  have HP := Hid.mk hp
  have HIN : Hid (∀ k, k < l.length → l.getD k 0 ∈ l) := fun k hk => by simp [List.getD, hk]
  clear hB hoa hp
  obtain ⟨n, hn'⟩ : ∃ n, l.length = n := ⟨_, rfl⟩
  rw [hn'] at HOA HF HT hn HIN ⊢
  clear hn'
  go_enter Try.func75, Try.ntmps75
  go_wp2
  go_loopw [8] (fun i wr => ∃ k : Nat, k ≤ n ∧ i = .int .i64 k ∧ Hid (∀ i, i < k → p (l.getD i 0) = false) ∧ Below w.heap.size w wr) (fun i _ => n - (intOf i).toNat)
  case atStart => exact ⟨0, Nat.zero_le _, rfl, fun i hi => by omega, Below.refl _ _⟩
  case round =>
    obtain ⟨k, hk, rfl, HK, HB⟩ := hrel
    by_cases hkn : k < n
    · have i1 : (k : Int) < (n : Int) := by omega
      have i0 : (0 : Int) ≤ (k : Int) := by omega
      obtain ⟨g, o, rfl, hc0⟩ := HOA.out k hkn
      have hc := cell_nx hc0 HB
      have hp := HP.out (l.getD k 0) (HIN.out k hkn) wr HB
      have HN : Hid (p (l.getD k 0) = false → ∀ i, i < k + 1 → p (l.getD i 0) = false) := fun h i hi => by
        by_cases e : i = k
        · subst e; exact h
        · exact HK.out i (by omega)
      have HG := Hid.mk (HT.out k hkn)
      clear hc0
      generalize l.getD k 0 = x at hc HN HG hp
      cases hb : p x
      · rw [hb] at hp
        have HN2 := Hid.mk (HN.out hb)
        clear HN HG HK hb
        go_wp2_with (go_at_call 71; refine hp.mono ?_; rintro e w2 ⟨rfl, B2⟩)
        go_roundw
        case rel => exact ⟨k + 1, by omega, by go_num, HN2, HB.trans (B2.mono HB.size)⟩
        case measure => simp [intOf]; omega
      · rw [hb] at hp
        have HG2 := Hid.mk (HG.out hb)
        clear HN HG HK hb
        go_wp2_with (go_at_call 71; refine hp.mono ?_; rintro e w2 ⟨rfl, B2⟩)
        go_ret
        exact ⟨⟨_, rfl, by unfold IxB; rw [HG2.out]; exact decide_eq_true i0⟩, HB.trans (B2.mono HB.size)⟩
    · obtain rfl : n = k := by omega
      have i1 : ¬ (n : Int) < (n : Int) := by omega
      have HT2 := Hid.mk (HF.out HK.out)
      go_wp2
      go_ret
      exact ⟨⟨-1, rfl, by unfold IxB; rw [HT2.out]; rfl⟩, HB⟩
set_option maxRecDepth 100000 in
theorem accc (l : List Int) (v : Value) (p : Int → Bool) (w : World) (Q : ARow w v l) (hn : l.length ≤ 1048576)
    (hp : ∀ x, x ∈ l → ∀ w', Below w.heap.size w w' → Calls Try.prog 71 #[.int .i64 x] w' fun e w'' => e = .returned (.bool (p x)) ∧ Below w'.heap.size w' w'') : Calls Try.prog 50 #[v, .func (.func 71) #[] #[]] w fun e w' => e = .returned (.bool (l.any p)) ∧ Below w.heap.size w w' := by
  have h := acci l v  p w Q hn hp
  obtain ⟨oa, oc, rfl, _⟩ := Q
  generalize l.any p = B at h ⊢
  clear hp
  go_enter Try.func50, Try.ntmps50
  go_wp2_with (go_at_call 75; refine h.mono ?_; rintro e w2 ⟨⟨z, rfl, hz⟩, B2⟩; unfold IxB at hz)
  go_ret
  exact ⟨rfl, B2⟩
set_option maxRecDepth 100000 in
set_option maxHeartbeats 2000000 in
theorem sizi (l : List Int) (v : Value) (b : Nat) (p : Int → Bool) (w : World) (Q : ARow w v l) (hn : l.length ≤ 1048576)
    (hp : ∀ x, x ∈ l → ∀ w', Below w.heap.size w w' → Calls Try.prog 51 #[.int .i64 x, .pointer (some ⟨b, 0, none⟩)] w' fun e w'' => e = .returned (.bool (p x)) ∧ Below w'.heap.size w' w'') : Calls Try.prog 75 #[v, .func (.func 51) #[] #[.pointer (some ⟨b, 0, none⟩)]] w fun e w' => (∃ z, e = .returned (.int .i64 z) ∧ IxB z (l.any p)) ∧ Below w.heap.size w w' := by
  obtain ⟨oa, oc, rfl, hoa⟩ := Q
  obtain ⟨B, hB⟩ : ∃ B, l.any p = B := ⟨_, rfl⟩
  have HT : Hid (∀ i, i < l.length → p (l.getD i 0) = true → B = true) := fun i hi h => by rw [← hB, List.any_eq_true]; exact ⟨_, by simp [List.getD, hi], h⟩
  have HF : Hid ((∀ i, i < l.length → p (l.getD i 0) = false) → B = false) := fun h => by
    rw [← hB, List.any_eq_false]
    intro x hx
    obtain ⟨i, hi, rfl⟩ := List.getElem_of_mem hx
    have := h i hi
    rw [show l.getD i 0 = l[i] by simp [List.getD, hi]] at this
    rw [this]
    exact Bool.false_ne_true
  rw [hB]
  have HOA := Hid.mk hoa
  have HP := Hid.mk hp
  have HIN : Hid (∀ k, k < l.length → l.getD k 0 ∈ l) := fun k hk => by simp [List.getD, hk]
  clear hB hoa hp
  obtain ⟨n, hn'⟩ : ∃ n, l.length = n := ⟨_, rfl⟩
  rw [hn'] at HOA HF HT hn HIN ⊢
  clear hn'
  go_enter Try.func75, Try.ntmps75
  go_wp2
  go_loopw [8] (fun i wr => ∃ k : Nat, k ≤ n ∧ i = .int .i64 k ∧ Hid (∀ i, i < k → p (l.getD i 0) = false) ∧ Below w.heap.size w wr) (fun i _ => n - (intOf i).toNat)
  case atStart => exact ⟨0, Nat.zero_le _, rfl, fun i hi => by omega, Below.refl _ _⟩
  case round =>
    obtain ⟨k, hk, rfl, HK, HB⟩ := hrel
    by_cases hkn : k < n
    · have i1 : (k : Int) < (n : Int) := by omega
      have i0 : (0 : Int) ≤ (k : Int) := by omega
      obtain ⟨g, o, rfl, hc0⟩ := HOA.out k hkn
      have hc := cell_nx hc0 HB
      have hp := HP.out (l.getD k 0) (HIN.out k hkn) wr HB
      have HN : Hid (p (l.getD k 0) = false → ∀ i, i < k + 1 → p (l.getD i 0) = false) := fun h i hi => by
        by_cases e : i = k
        · subst e; exact h
        · exact HK.out i (by omega)
      have HG := Hid.mk (HT.out k hkn)
      clear hc0
      generalize l.getD k 0 = x at hc HN HG hp
      cases hb : p x
      · rw [hb] at hp
        have HN2 := Hid.mk (HN.out hb)
        clear HN HG HK hb
        go_wp2_with (go_at_call 51; refine hp.mono ?_; rintro e w2 ⟨rfl, B2⟩)
        go_roundw
        case rel => exact ⟨k + 1, by omega, by go_num, HN2, HB.trans (B2.mono HB.size)⟩
        case measure => simp [intOf]; omega
      · rw [hb] at hp
        have HG2 := Hid.mk (HG.out hb)
        clear HN HG HK hb
        go_wp2_with (go_at_call 51; refine hp.mono ?_; rintro e w2 ⟨rfl, B2⟩)
        go_ret
        exact ⟨⟨_, rfl, by unfold IxB; rw [HG2.out]; exact decide_eq_true i0⟩, HB.trans (B2.mono HB.size)⟩
    · obtain rfl : n = k := by omega
      have i1 : ¬ (n : Int) < (n : Int) := by omega
      have HT2 := Hid.mk (HF.out HK.out)
      go_wp2
      go_ret
      exact ⟨⟨-1, rfl, by unfold IxB; rw [HT2.out]; rfl⟩, HB⟩
set_option maxRecDepth 100000 in
theorem sizc (l : List Int) (v : Value) (b : Nat) (p : Int → Bool) (w : World) (Q : ARow w v l) (hn : l.length ≤ 1048576)
    (hp : ∀ x, x ∈ l → ∀ w', Below w.heap.size w w' → Calls Try.prog 51 #[.int .i64 x, .pointer (some ⟨b, 0, none⟩)] w' fun e w'' => e = .returned (.bool (p x)) ∧ Below w'.heap.size w' w'') : Calls Try.prog 50 #[v, .func (.func 51) #[] #[.pointer (some ⟨b, 0, none⟩)]] w fun e w' => e = .returned (.bool (l.any p)) ∧ Below w.heap.size w w' := by
  have h := sizi l v b p w Q hn hp
  obtain ⟨oa, oc, rfl, _⟩ := Q
  generalize l.any p = B at h ⊢
  clear hp
  go_enter Try.func50, Try.ntmps50
  go_wp2_with (go_at_call 75; refine h.mono ?_; rintro e w2 ⟨⟨z, rfl, hz⟩, B2⟩; unfold IxB at hz)
  go_ret
  exact ⟨rfl, B2⟩
set_option maxRecDepth 100000 in
set_option maxHeartbeats 2000000 in
theorem gdsi (l : List Int) (v : Value) (cb sb : Nat) (p : Int → Bool) (w : World) (Q : ARow w v l) (hn : l.length ≤ 1048576)
    (hp : ∀ x, x ∈ l → ∀ w', Below w.heap.size w w' → Calls Try.prog 77 #[.int .i64 x, .pointer (some ⟨cb, 0, none⟩), .pointer (some ⟨sb, 0, none⟩)] w' fun e w'' => e = .returned (.bool (p x)) ∧ Below w'.heap.size w' w'') : Calls Try.prog 75 #[v, .func (.func 77) #[] #[.pointer (some ⟨cb, 0, none⟩), .pointer (some ⟨sb, 0, none⟩)]] w fun e w' => (∃ z, e = .returned (.int .i64 z) ∧ IxB z (l.any p)) ∧ Below w.heap.size w w' := by
  obtain ⟨oa, oc, rfl, hoa⟩ := Q
  obtain ⟨B, hB⟩ : ∃ B, l.any p = B := ⟨_, rfl⟩
  have HT : Hid (∀ i, i < l.length → p (l.getD i 0) = true → B = true) := fun i hi h => by rw [← hB, List.any_eq_true]; exact ⟨_, by simp [List.getD, hi], h⟩
  have HF : Hid ((∀ i, i < l.length → p (l.getD i 0) = false) → B = false) := fun h => by
    rw [← hB, List.any_eq_false]
    intro x hx
    obtain ⟨i, hi, rfl⟩ := List.getElem_of_mem hx
    have := h i hi
    rw [show l.getD i 0 = l[i] by simp [List.getD, hi]] at this
    rw [this]
    exact Bool.false_ne_true
  rw [hB]
  have HOA := Hid.mk hoa
  have HP := Hid.mk hp
  have HIN : Hid (∀ k, k < l.length → l.getD k 0 ∈ l) := fun k hk => by simp [List.getD, hk]
  clear hB hoa hp
  obtain ⟨n, hn'⟩ : ∃ n, l.length = n := ⟨_, rfl⟩
  rw [hn'] at HOA HF HT hn HIN ⊢
  clear hn'
  go_enter Try.func75, Try.ntmps75
  go_wp2
  go_loopw [8] (fun i wr => ∃ k : Nat, k ≤ n ∧ i = .int .i64 k ∧ Hid (∀ i, i < k → p (l.getD i 0) = false) ∧ Below w.heap.size w wr) (fun i _ => n - (intOf i).toNat)
  case atStart => exact ⟨0, Nat.zero_le _, rfl, fun i hi => by omega, Below.refl _ _⟩
  case round =>
    obtain ⟨k, hk, rfl, HK, HB⟩ := hrel
    by_cases hkn : k < n
    · have i1 : (k : Int) < (n : Int) := by omega
      have i0 : (0 : Int) ≤ (k : Int) := by omega
      obtain ⟨g, o, rfl, hc0⟩ := HOA.out k hkn
      have hc := cell_nx hc0 HB
      have hp := HP.out (l.getD k 0) (HIN.out k hkn) wr HB
      have HN : Hid (p (l.getD k 0) = false → ∀ i, i < k + 1 → p (l.getD i 0) = false) := fun h i hi => by
        by_cases e : i = k
        · subst e; exact h
        · exact HK.out i (by omega)
      have HG := Hid.mk (HT.out k hkn)
      clear hc0
      generalize l.getD k 0 = x at hc HN HG hp
      cases hb : p x
      · rw [hb] at hp
        have HN2 := Hid.mk (HN.out hb)
        clear HN HG HK hb
        go_wp2_with (go_at_call 77; refine hp.mono ?_; rintro e w2 ⟨rfl, B2⟩)
        go_roundw
        case rel => exact ⟨k + 1, by omega, by go_num, HN2, HB.trans (B2.mono HB.size)⟩
        case measure => simp [intOf]; omega
      · rw [hb] at hp
        have HG2 := Hid.mk (HG.out hb)
        clear HN HG HK hb
        go_wp2_with (go_at_call 77; refine hp.mono ?_; rintro e w2 ⟨rfl, B2⟩)
        go_ret
        exact ⟨⟨_, rfl, by unfold IxB; rw [HG2.out]; exact decide_eq_true i0⟩, HB.trans (B2.mono HB.size)⟩
    · obtain rfl : n = k := by omega
      have i1 : ¬ (n : Int) < (n : Int) := by omega
      have HT2 := Hid.mk (HF.out HK.out)
      go_wp2
      go_ret
      exact ⟨⟨-1, rfl, by unfold IxB; rw [HT2.out]; rfl⟩, HB⟩
set_option maxRecDepth 100000 in
theorem gdsc (l : List Int) (v : Value) (cb sb : Nat) (p : Int → Bool) (w : World) (Q : ARow w v l) (hn : l.length ≤ 1048576)
    (hp : ∀ x, x ∈ l → ∀ w', Below w.heap.size w w' → Calls Try.prog 77 #[.int .i64 x, .pointer (some ⟨cb, 0, none⟩), .pointer (some ⟨sb, 0, none⟩)] w' fun e w'' => e = .returned (.bool (p x)) ∧ Below w'.heap.size w' w'') : Calls Try.prog 50 #[v, .func (.func 77) #[] #[.pointer (some ⟨cb, 0, none⟩), .pointer (some ⟨sb, 0, none⟩)]] w fun e w' => e = .returned (.bool (l.any p)) ∧ Below w.heap.size w w' := by
  have h := gdsi l v cb sb p w Q hn hp
  obtain ⟨oa, oc, rfl, _⟩ := Q
  generalize l.any p = B at h ⊢
  clear hp
  go_enter Try.func50, Try.ntmps50
  go_wp2_with (go_at_call 75; refine h.mono ?_; rintro e w2 ⟨⟨z, rfl, hz⟩, B2⟩; unfold IxB at hz)
  go_ret
  exact ⟨rfl, B2⟩
theorem paccs1 (x : Int) (w : World) : Calls Try.prog 71 #[.int .i64 x] w fun e w' => e = .returned (.bool (!accI x)) ∧ w' = w := by
  have h := pacc x w
  unfold accI
  generalize (decide (0 ≤ x) && decide (x ≤ 1000000)) = B at h ⊢
  go_enter Try.func71, Try.ntmps71
  go_wp2_with (go_at_call 65; refine h.mono ?_; rintro e w2 ⟨rfl, hw⟩; subst w2)
  go_ret
  exact ⟨rfl, rfl⟩
theorem paccs (l : List Int) (v : Value) (w : World) (Q : ARow w v l) (hn : l.length ≤ 1048576) : Calls Try.prog 43 #[v] w fun e w' => e = .returned (.bool (accB l)) ∧ Below w.heap.size w w' := by
  have h := accc l v (fun x => !accI x) w Q hn (fun x _ w' _ => (paccs1 x w').mono fun e w'' ⟨h1, h2⟩ => ⟨h1, by rw [h2]; exact Below.refl _ _⟩)
  obtain ⟨oa, oc, rfl, _⟩ := Q
  unfold accB
  by_cases big : l.length ≤ 200
  case neg =>
    have b1 : (200 : Int) < (l.length : Int) := by omega
    rw [decide_eq_false big]
    clear h big
    go_enter Try.func43, Try.ntmps43
    go_wp2
    go_ret
    exact ⟨rfl, Below.refl _ _⟩
  have b1 : (l.length : Int) ≤ 200 := by omega
  rw [decide_eq_true big, Bool.true_and]
  have e : l.all accI = !(l.any fun x => !accI x) := by simp [List.any_eq_not_all_not]
  rw [e]
  generalize (l.any fun x => !accI x) = B at h ⊢
  clear e big
  go_enter Try.func43, Try.ntmps43
  go_wp2_with (go_at_call 50; refine h.mono ?_; rintro e w2 ⟨rfl, B2⟩)
  go_ret
  exact ⟨rfl, B2⟩
end Go.Proofs.Ytfhpjcojccfcoaa
