/- GoodScreen of both sides. -/
import Derived.Test.YtkngjngmalogaaaDa
namespace Go.Proofs.Ytkngjngmalogaaa
open Go.ChangeShapes Go.WideShapes Go.ChangeAt Go.RowKit
set_option linter.unusedVariables false
def sdB (a b : Int) : Bool := (decide (1 ≤ a) && decide (a ≤ 24)) && (decide (1 ≤ b) && decide (b ≤ 24))
def kgB (c : Col) : Bool := gdC c.r c.g c.b c.a
def dgB (x : Int) : Bool := decide (0 ≤ x) && decide (x ≤ 65536)
/-- A screen as it should be. -/
def gsB (sw sh : Int) (L : List Col) (M : List Int) : Bool := sdB sw sh && (decide ((L.length : Int) = sw * sh) && decide ((M.length : Int) = sw * sh)) && (L.all kgB && M.all dgB)
theorem sd_iff {a b : Int} (h : sdB a b = true) : (1 ≤ a ∧ a ≤ 24) ∧ 1 ≤ b ∧ b ≤ 24 := by
  unfold sdB at h
  simp only [Bool.and_eq_true, decide_eq_true_eq] at h
  exact h
theorem sd_no {a b : Int} (h : ¬ ((1 ≤ a ∧ a ≤ 24) ∧ 1 ≤ b ∧ b ≤ 24)) : sdB a b = false := by
  cases e : sdB a b
  · rfl
  · exact absurd (sd_iff e) h
theorem sd_yes {a b : Int} (h1 : 1 ≤ a) (h2 : a ≤ 24) (h3 : 1 ≤ b) (h4 : b ≤ 24) : sdB a b = true := by
  unfold sdB
  rw [decide_eq_true h1, decide_eq_true h2, decide_eq_true h3, decide_eq_true h4]; rfl
theorem area_bnd {a b : Int} (h : sdB a b = true) : 1 ≤ a * b ∧ a * b ≤ 576 := by
  obtain ⟨⟨a0, a1⟩, b0, b1⟩ := sd_iff h
  have h1 : 1 * 1 ≤ a * b := Int.mul_le_mul a0 b0 (by decide) (by omega)
  have h2 : a * b ≤ 24 * 24 := Int.mul_le_mul a1 b1 (by omega) (by decide)
  omega
theorem msides (a b : Int) (w : World) : Calls Try.prog 15 #[.int .i64 a, .int .i64 b] w fun e w' => e = .returned (.bool (sdB a b)) ∧ w' = w := by
  by_cases h0 : 1 ≤ a
  case neg =>
    rw [sd_no (by omega)]
    have g : a < 1 := by omega
    have g2 : ¬ (1 ≤ a) := h0
    clear h0
    go_enter Try.func15, Try.ntmps15
    go_wp2
    go_ret
    exact ⟨rfl, rfl⟩
  by_cases h1 : a ≤ 24
  case neg =>
    rw [sd_no (by omega)]
    have g : 24 < a := by omega
    have g2 : ¬ (a ≤ 24) := h1
    clear h1
    go_enter Try.func15, Try.ntmps15
    go_wp2
    go_ret
    exact ⟨rfl, rfl⟩
  by_cases h2 : 1 ≤ b
  case neg =>
    rw [sd_no (by omega)]
    have g : b < 1 := by omega
    have g2 : ¬ (1 ≤ b) := h2
    clear h2
    go_enter Try.func15, Try.ntmps15
    go_wp2
    go_ret
    exact ⟨rfl, rfl⟩
  by_cases h3 : b ≤ 24
  case neg =>
    rw [sd_no (by omega)]
    have g : 24 < b := by omega
    have g2 : ¬ (b ≤ 24) := h3
    clear h3
    go_enter Try.func15, Try.ntmps15
    go_wp2
    go_ret
    exact ⟨rfl, rfl⟩
  rw [sd_yes h0 h1 h2 h3]
  go_enter Try.func15, Try.ntmps15
  go_wp2
  go_ret
  exact ⟨rfl, rfl⟩
theorem psides (a b : Int) (w : World) : Calls Try.prog 17 #[.int .i64 a, .int .i64 b] w fun e w' => e = .returned (.bool (sdB a b)) ∧ w' = w := by
  obtain ⟨x, hx⟩ : ∃ x, max a b = x := ⟨_, rfl⟩
  obtain ⟨y, hy⟩ : ∃ y, min a b = y := ⟨_, rfl⟩
  have hx' : (if a < b then b else a) = x := by rw [← hx]; split <;> omega
  have hy' : (if b < a then b else a) = y := by rw [← hy]; split <;> omega
  have hx2 : (if b < a then a else b) = x := by rw [← hx]; split <;> omega
  have hy2 : (if a < b then a else b) = y := by rw [← hy]; split <;> omega
  have hg : sdB a b = (decide (1 ≤ y) && decide (x ≤ 24)) := by
    unfold sdB
    rw [Bool.eq_iff_iff]
    simp only [Bool.and_eq_true, decide_eq_true_eq]
    omega
  rw [hg]
  clear hg
  by_cases h1 : 1 ≤ y
  · by_cases h2 : x ≤ 24
    · rw [decide_eq_true h1, decide_eq_true h2]
      go_enter Try.func17, Try.ntmps17
      go_wp2
      go_ret
      exact ⟨rfl, rfl⟩
    · rw [decide_eq_true h1, decide_eq_false h2]
      have h3 : 24 < x := by omega
      go_enter Try.func17, Try.ntmps17
      go_wp2
      go_ret
      exact ⟨rfl, rfl⟩
  · rw [decide_eq_false h1]
    have h3 : y < 1 := by omega
    go_enter Try.func17, Try.ntmps17
    go_wp2
    go_ret
    exact ⟨rfl, rfl⟩
/-- A place tells whether there is one. -/
def IxB (z : Int) (b : Bool) : Prop := decide (0 ≤ z) = b
set_option maxRecDepth 100000 in
set_option maxHeartbeats 2000000 in
theorem wroi (l : List Int) (v : Value) (p : Int → Bool) (w : World) (Q : ARow w v l) (hn : l.length ≤ 1048576)
    (hp : ∀ x, x ∈ l → ∀ w', Below w.heap.size w w' → Calls Try.prog 31 #[.int .i64 x] w' fun e w'' => e = .returned (.bool (p x)) ∧ Below w'.heap.size w' w'') : Calls Try.prog 39 #[v, .func (.func 31) #[] #[]] w fun e w' => (∃ z, e = .returned (.int .i64 z) ∧ IxB z (l.any p)) ∧ Below w.heap.size w w' := by
  obtain ⟨oa, oc, rfl, hoa⟩ := Q
  obtain ⟨B, hB⟩ : ∃ B, l.any p = B := ⟨_, rfl⟩
  have HT : Hid (∀ i, i < l.length → p (l.getD i 0) = true → B = true) := fun i hi h => by rw [← hB, List.any_eq_true]; exact ⟨_, by simp [List.getD, hi], h⟩
  have HF : Hid ((∀ i, i < l.length → p (l.getD i 0) = false) → B = false) := fun h => by
    rw [← hB, List.any_eq_false]
    intro x hx
    obtain ⟨i, hi, rfl⟩ := List.getElem_of_mem hx
    have := h i hi
    rw [show l.getD i 0 = l[i] by simp [List.getD, hi]] at this
    rw [this]
    exact Bool.false_ne_true
  rw [hB]
  have HOA := Hid.mk hoa
  have HP := Hid.mk hp
  have HIN : Hid (∀ k, k < l.length → l.getD k 0 ∈ l) := fun k hk => by simp [List.getD, hk]
  clear hB hoa hp
  obtain ⟨n, hn'⟩ : ∃ n, l.length = n := ⟨_, rfl⟩
  rw [hn'] at HOA HF HT hn HIN ⊢
  clear hn'
  go_enter Try.func39, Try.ntmps39
  go_wp2
  go_loopw [8] (fun i wr => ∃ k : Nat, k ≤ n ∧ i = .int .i64 k ∧ Hid (∀ i, i < k → p (l.getD i 0) = false) ∧ Below w.heap.size w wr) (fun i _ => n - (intOf i).toNat)
  case atStart => exact ⟨0, Nat.zero_le _, rfl, fun i hi => by omega, Below.refl _ _⟩
  case round =>
    obtain ⟨k, hk, rfl, HK, HB⟩ := hrel
    by_cases hkn : k < n
    · have i1 : (k : Int) < (n : Int) := by omega
      have i0 : (0 : Int) ≤ (k : Int) := by omega
      obtain ⟨g, o, rfl, hc0⟩ := HOA.out k hkn
      have hc := cell_nx hc0 HB
      have hp := HP.out (l.getD k 0) (HIN.out k hkn) wr HB
      have HN : Hid (p (l.getD k 0) = false → ∀ i, i < k + 1 → p (l.getD i 0) = false) := fun h i hi => by
        by_cases e : i = k
        · subst e; exact h
        · exact HK.out i (by omega)
      have HG := Hid.mk (HT.out k hkn)
      clear hc0
      generalize l.getD k 0 = x at hc HN HG hp
      cases hb : p x
      · rw [hb] at hp
        have HN2 := Hid.mk (HN.out hb)
        clear HN HG HK hb
        go_wp2_with (go_at_call 31; refine hp.mono ?_; rintro e w2 ⟨rfl, B2⟩)
        go_roundw
        case rel => exact ⟨k + 1, by omega, by go_num, HN2, HB.trans (B2.mono HB.size)⟩
        case measure => simp [intOf]; omega
      · rw [hb] at hp
        have HG2 := Hid.mk (HG.out hb)
        clear HN HG HK hb
        go_wp2_with (go_at_call 31; refine hp.mono ?_; rintro e w2 ⟨rfl, B2⟩)
        go_ret
        exact ⟨⟨_, rfl, by unfold IxB; rw [HG2.out]; exact decide_eq_true i0⟩, HB.trans (B2.mono HB.size)⟩
    · obtain rfl : n = k := by omega
      have i1 : ¬ (n : Int) < (n : Int) := by omega
      have HT2 := Hid.mk (HF.out HK.out)
      go_wp2
      go_ret
      exact ⟨⟨-1, rfl, by unfold IxB; rw [HT2.out]; rfl⟩, HB⟩
set_option maxRecDepth 100000 in
theorem wroc (l : List Int) (v : Value) (p : Int → Bool) (w : World) (Q : ARow w v l) (hn : l.length ≤ 1048576)
    (hp : ∀ x, x ∈ l → ∀ w', Below w.heap.size w w' → Calls Try.prog 31 #[.int .i64 x] w' fun e w'' => e = .returned (.bool (p x)) ∧ Below w'.heap.size w' w'') : Calls Try.prog 33 #[v, .func (.func 31) #[] #[]] w fun e w' => e = .returned (.bool (l.any p)) ∧ Below w.heap.size w w' := by
  have h := wroi l v  p w Q hn hp
  obtain ⟨oa, oc, rfl, _⟩ := Q
  generalize l.any p = B at h ⊢
  clear hp
  go_enter Try.func33, Try.ntmps33
  go_wp2_with (go_at_call 39; refine h.mono ?_; rintro e w2 ⟨⟨z, rfl, hz⟩, B2⟩; unfold IxB at hz)
  go_ret
  exact ⟨rfl, B2⟩
set_option maxRecDepth 100000 in
set_option maxHeartbeats 2000000 in
theorem gcoi (l : List Col) (v : Value) (p : Col → Bool) (w : World) (Q : KRow w v l) (hn : l.length ≤ 1048576)
    (hp : ∀ x, x ∈ l → ∀ w', Below w.heap.size w w' → Calls Try.prog 38 #[colV x] w' fun e w'' => e = .returned (.bool (p x)) ∧ Below w'.heap.size w' w'') : Calls Try.prog 42 #[v, .func (.func 38) #[] #[]] w fun e w' => (∃ z, e = .returned (.int .i64 z) ∧ IxB z (l.any p)) ∧ Below w.heap.size w w' := by
  obtain ⟨oa, oc, rfl, hoa⟩ := Q
  obtain ⟨B, hB⟩ : ∃ B, l.any p = B := ⟨_, rfl⟩
  have HT : Hid (∀ i, i < l.length → p (l.getD i dC) = true → B = true) := fun i hi h => by rw [← hB, List.any_eq_true]; exact ⟨_, by simp [List.getD, hi], h⟩
  have HF : Hid ((∀ i, i < l.length → p (l.getD i dC) = false) → B = false) := fun h => by
    rw [← hB, List.any_eq_false]
    intro x hx
    obtain ⟨i, hi, rfl⟩ := List.getElem_of_mem hx
    have := h i hi
    rw [show l.getD i dC = l[i] by simp [List.getD, hi]] at this
    rw [this]
    exact Bool.false_ne_true
  rw [hB]
  have HOA := Hid.mk hoa
  have HP := Hid.mk hp
  have HIN : Hid (∀ k, k < l.length → l.getD k dC ∈ l) := fun k hk => by simp [List.getD, hk]
  clear hB hoa hp
  obtain ⟨n, hn'⟩ : ∃ n, l.length = n := ⟨_, rfl⟩
  rw [hn'] at HOA HF HT hn HIN ⊢
  clear hn'
  go_enter Try.func42, Try.ntmps42
  go_wp2
  go_loopw [8] (fun i wr => ∃ k : Nat, k ≤ n ∧ i = .int .i64 k ∧ Hid (∀ i, i < k → p (l.getD i dC) = false) ∧ Below w.heap.size w wr) (fun i _ => n - (intOf i).toNat)
  case atStart => exact ⟨0, Nat.zero_le _, rfl, fun i hi => by omega, Below.refl _ _⟩
  case round =>
    obtain ⟨k, hk, rfl, HK, HB⟩ := hrel
    by_cases hkn : k < n
    · have i1 : (k : Int) < (n : Int) := by omega
      have i0 : (0 : Int) ≤ (k : Int) := by omega
      obtain ⟨g, o, rfl, h0, h1, h2, h3⟩ := HOA.out k hkn
      have hc0 := cell_nx h0 HB
      have hc1 := cell_nx h1 HB
      have hc2 := cell_nx h2 HB
      have hc3 := cell_nx h3 HB
      have hp := HP.out (l.getD k dC) (HIN.out k hkn) wr HB
      have HN : Hid (p (l.getD k dC) = false → ∀ i, i < k + 1 → p (l.getD i dC) = false) := fun h i hi => by
        by_cases e : i = k
        · subst e; exact h
        · exact HK.out i (by omega)
      have HG := Hid.mk (HT.out k hkn)
      clear h0 h1 h2 h3
      generalize l.getD k dC = x at hc0 hc1 hc2 hc3 HN HG hp
      unfold colV at hp
      cases hb : p x
      · rw [hb] at hp
        have HN2 := Hid.mk (HN.out hb)
        clear HN HG HK hb
        go_wp2_with (go_at_call 38; refine hp.mono ?_; rintro e w2 ⟨rfl, B2⟩)
        go_roundw
        case rel => exact ⟨k + 1, by omega, by go_num, HN2, HB.trans (B2.mono HB.size)⟩
        case measure => simp [intOf]; omega
      · rw [hb] at hp
        have HG2 := Hid.mk (HG.out hb)
        clear HN HG HK hb
        go_wp2_with (go_at_call 38; refine hp.mono ?_; rintro e w2 ⟨rfl, B2⟩)
        go_ret
        exact ⟨⟨_, rfl, by unfold IxB; rw [HG2.out]; exact decide_eq_true i0⟩, HB.trans (B2.mono HB.size)⟩
    · obtain rfl : n = k := by omega
      have i1 : ¬ (n : Int) < (n : Int) := by omega
      have HT2 := Hid.mk (HF.out HK.out)
      go_wp2
      go_ret
      exact ⟨⟨-1, rfl, by unfold IxB; rw [HT2.out]; rfl⟩, HB⟩
set_option maxRecDepth 100000 in
theorem gcoc (l : List Col) (v : Value) (p : Col → Bool) (w : World) (Q : KRow w v l) (hn : l.length ≤ 1048576)
    (hp : ∀ x, x ∈ l → ∀ w', Below w.heap.size w w' → Calls Try.prog 38 #[colV x] w' fun e w'' => e = .returned (.bool (p x)) ∧ Below w'.heap.size w' w'') : Calls Try.prog 37 #[v, .func (.func 38) #[] #[]] w fun e w' => e = .returned (.bool (l.any p)) ∧ Below w.heap.size w w' := by
  have h := gcoi l v  p w Q hn hp
  obtain ⟨oa, oc, rfl, _⟩ := Q
  generalize l.any p = B at h ⊢
  clear hp
  go_enter Try.func37, Try.ntmps37
  go_wp2_with (go_at_call 42; refine h.mono ?_; rintro e w2 ⟨⟨z, rfl, hz⟩, B2⟩; unfold IxB at hz)
  go_ret
  exact ⟨rfl, B2⟩
theorem wro1 (x : Int) (w : World) : Calls Try.prog 31 #[.int .i64 x] w fun e w' => e = .returned (.bool (!dgB x)) ∧ w' = w := by
  unfold dgB
  by_cases h1 : 0 ≤ x
  · have g1 : ¬ x < 0 := by omega
    by_cases h2 : x ≤ 65536
    · have g2 : ¬ 65536 < x := by omega
      rw [decide_eq_true h1, decide_eq_true h2]
      go_enter Try.func31, Try.ntmps31
      go_wp2
      go_ret
      exact ⟨rfl, rfl⟩
    · have g2 : 65536 < x := by omega
      rw [decide_eq_true h1, decide_eq_false h2]
      go_enter Try.func31, Try.ntmps31
      go_wp2
      go_ret
      exact ⟨rfl, rfl⟩
  · have g1 : x < 0 := by omega
    rw [decide_eq_false h1]
    go_enter Try.func31, Try.ntmps31
    go_wp2
    go_ret
    exact ⟨rfl, rfl⟩
theorem gco1 (c : Col) (w : World) : Calls Try.prog 38 #[colV c] w fun e w' => e = .returned (.bool (!kgB c)) ∧ Below w.heap.size w w' := by
  have HG : Hid (∀ w, Calls Try.prog 18 #[.agg #[.int .i64 c.r, .int .i64 c.g, .int .i64 c.b, .int .i64 c.a]] w fun e w' => e = .returned (.bool (kgB c)) ∧ Below w.heap.size w w') := fun w => good13 c.r c.g c.b c.a w
  have HB : Hid (Below w.heap.size w (w.alloc (.cells #[.int .i64 c.r, .int .i64 c.g, .int .i64 c.b, .int .i64 c.a] 30))) := alloc_b
  generalize kgB c = GB at HG ⊢
  unfold colV
  go_enter Try.func38, Try.ntmps38
  go_wp2_with (go_at_call 18; refine (HG.out _).mono ?_; rintro e w2 ⟨rfl, B2⟩)
  go_ret
  exact ⟨rfl, HB.out.trans (B2.mono HB.out.size)⟩
theorem any_not {α : Type} (p : α → Bool) (L : List α) : (!L.any (fun x => !p x)) = L.all p := by
  induction L with
  | nil => rfl
  | cons a l ih => rw [List.any_cons, List.all_cons, Bool.not_or, ih, Bool.not_not]
theorem pgcs (L : List Col) (v : Value) (w : World) (Q : KRow w v L) (hn : L.length ≤ 1048576) : Calls Try.prog 32 #[v] w fun e w' => e = .returned (.bool (L.all kgB)) ∧ Below w.heap.size w w' := by
  have h := gcoc L v (fun x => !kgB x) w Q hn (fun x _ w2 _ => gco1 x w2)
  obtain ⟨ad, c, rfl, _⟩ := Q
  rw [← any_not]
  generalize L.any (fun x => !kgB x) = B at h ⊢
  go_enter Try.func32, Try.ntmps32
  go_wp2_with (go_at_call 37; refine h.mono ?_; rintro e w2 ⟨rfl, B2⟩)
  go_ret
  exact ⟨rfl, B2⟩
set_option maxRecDepth 100000 in
set_option maxHeartbeats 4000000 in
theorem pgs (sw sh : Int) (x z : Value) (L : List Col) (M : List Int) (w : World) (X : KRow w x L) (Z : ARow w z M) (hl : L.length ≤ 1048576) (hm : M.length ≤ 1048576) : Calls Try.prog 14 #[.agg #[.int .i64 sw, .int .i64 sh, x, z]] w fun e w' => e = .returned (.bool (gsB sw sh L M)) ∧ Below w.heap.size w w' := by
  have HS : Hid (∀ w, Calls Try.prog 17 #[.int .i64 sw, .int .i64 sh] w fun e w' => e = .returned (.bool (sdB sw sh)) ∧ w' = w) := fun w => psides sw sh w
  have HXX : Hid (∀ w', Below w.heap.size w w' → KRow w' x L) := fun w' b => X.next b
  have HZZ : Hid (∀ w', Below w.heap.size w w' → ARow w' z M) := fun w' b => Z.next b
  obtain ⟨ca, cc, rfl, hx⟩ := X
  obtain ⟨da, dc, rfl, hz⟩ := Z
  have HX := Hid.mk hx
  have HZ := Hid.mk hz
  clear hx hz
  cases hs : sdB sw sh
  · rw [show gsB sw sh L M = false by unfold gsB; rw [hs]; rfl]
    rw [hs] at HS
    generalize L.length = n at *
    generalize M.length = m at *
    clear hs HXX HZZ HX HZ
    go_enter Try.func14, Try.ntmps14
    go_wp2_with (go_at_call 17; refine (HS.out _).mono ?_; rintro e9 w9 ⟨rfl, hw⟩; subst w9)
    go_ret
    exact ⟨rfl, alloc_b⟩
  have hb := area_bnd hs
  rw [hs] at HS
  obtain ⟨B, hB⟩ : ∃ B, gsB sw sh L M = B := ⟨_, rfl⟩
  rw [hB]
  unfold gsB at hB
  rw [hs, Bool.true_and] at hB
  obtain ⟨P, hP⟩ : ∃ z, sw * sh = z := ⟨_, rfl⟩
  rw [hP] at hb hB
  obtain ⟨b0, b1⟩ := hb
  have hPw : IntKind.i64.wrap P = P := (IntKind.wrap_i64 _).trans (by omega)
  clear hs
  by_cases c1 : (L.length : Int) = P
  case neg =>
    rw [decide_eq_false c1] at hB
    obtain rfl : B = false := by rw [← hB]; rfl
    generalize L.length = n at *
    generalize M.length = m at *
    have c2 : ((n : Int) == P) = false := by simp; exact c1
    have c3 : ((n : Int) != P) = true := by simp; exact c1
    clear hB HXX HZZ HX HZ
    go_enter Try.func14, Try.ntmps14
    go_wp2_with (go_at_call 17; refine (HS.out _).mono ?_; rintro e9 w9 ⟨rfl, hw⟩; subst w9)
    go_ret
    exact ⟨rfl, alloc_b⟩
  by_cases d1 : (M.length : Int) = P
  case neg =>
    rw [decide_eq_false d1, Bool.and_false] at hB
    obtain rfl : B = false := by rw [← hB]; rfl
    generalize L.length = n at *
    generalize M.length = m at *
    have d2 : ((m : Int) == P) = false := by simp; exact d1
    have d3 : ((m : Int) != P) = true := by simp; exact d1
    have d4 : ¬ (m : Int) = (n : Int) := by omega
    have d5 : ((m : Int) == (n : Int)) = false := by simp; omega
    have d6 : ((m : Int) != (n : Int)) = true := by simp; omega
    clear hB HXX HZZ HX HZ
    go_enter Try.func14, Try.ntmps14
    go_wp2_with (go_at_call 17; refine (HS.out _).mono ?_; rintro e9 w9 ⟨rfl, hw⟩; subst w9)
    go_ret
    exact ⟨rfl, alloc_b⟩
  rw [decide_eq_true c1, decide_eq_true d1, Bool.true_and, Bool.true_and] at hB
  have HB := Hid.mk hB
  clear hB
  have HC : Hid (∀ w', Below w.heap.size w w' → Calls Try.prog 32 #[.slice ca L.length cc] w' fun e w'' => e = .returned (.bool (L.all kgB)) ∧ Below w'.heap.size w' w'') := fun w' b => pgcs L _ w' (HXX.out w' b) hl
  have HD : Hid (∀ w', Below w.heap.size w w' → Calls Try.prog 33 #[.slice da M.length dc, .func (.func 31) #[] #[]] w' fun e w'' => e = .returned (.bool (!M.all dgB)) ∧ Below w'.heap.size w' w'') := fun w' b => by
    rw [← any_not, Bool.not_not]
    exact wroc M _ (fun x => !dgB x) w' (HZZ.out w' b) hm (fun x _ w2 _ => (wro1 x w2).mono fun e w3 ⟨h1, h2⟩ => ⟨h1, by rw [h2]; exact Below.refl _ _⟩)
  generalize L.all kgB = B1 at HC HB
  generalize M.all dgB = B2 at HD HB
  generalize L.length = n at *
  generalize M.length = m at *
  have T0 := C4.new w 27 (.int .i64 sw) (.int .i64 sh) (.slice ca n cc) (.slice da m dc)
  have hb0 : Below w.heap.size w (w.alloc (.cells #[.int .i64 sw, .int .i64 sh, .slice ca n cc, .slice da m dc] 27)) := alloc_b
  have HB0 := Hid.mk hb0
  clear HX HZ HXX HZZ hb0
  cases B1
  · obtain rfl : B = false := by rw [← HB.out]; rfl
    go_enter Try.func14, Try.ntmps14
    go_wp2_with (first | (go_at_call 17; refine (HS.out _).mono ?_; rintro e9 w9 ⟨rfl, hw⟩; subst w9) | (go_at_call 32; refine (HC.out _ HB0.out).mono ?_; rintro e9 w2 ⟨rfl, B2⟩))
    go_ret
    exact ⟨rfl, HB0.out.trans (B2.mono HB0.out.size)⟩
  · obtain rfl : B = B2 := by rw [← HB.out]; rfl
    go_enter Try.func14, Try.ntmps14
    go_wp2_with (first | (go_at_call 17; refine (HS.out _).mono ?_; rintro e9 w9 ⟨rfl, hw⟩; subst w9) | (go_at_call 32; refine (HC.out _ HB0.out).mono ?_; rintro e9 w2 ⟨rfl, B2⟩; (have T2 := T0.next B2); (have BX := HB0.out.trans (B2.mono HB0.out.size)); (have q0 := T2.c0); (have q1 := T2.c1); (have q2 := T2.c2); (have q3 := T2.c3)) | (go_at_call 33; refine (HD.out _ BX).mono ?_; rintro e9 w3 ⟨rfl, B3⟩))
    go_ret
    exact ⟨by simp, BX.trans (B3.mono BX.size)⟩
set_option maxRecDepth 100000 in
set_option maxHeartbeats 4000000 in
theorem mgs (sw sh : Int) (x z : Value) (L : List Col) (M : List Int) (w : World) (X : KRow w x L) (Z : ARow w z M) (hl : L.length ≤ 1048576) (hm : M.length ≤ 1048576) : Calls Try.prog 12 #[.agg #[.int .i64 sw, .int .i64 sh, x, z]] w fun e w' => e = .returned (.bool (gsB sw sh L M)) ∧ Below w.heap.size w w' := by
  have HS : Hid (∀ w, Calls Try.prog 15 #[.int .i64 sw, .int .i64 sh] w fun e w' => e = .returned (.bool (sdB sw sh)) ∧ w' = w) := fun w => msides sw sh w
  have HXX : Hid (∀ w', Below w.heap.size w w' → KRow w' x L) := fun w' b => X.next b
  have HZZ : Hid (∀ w', Below w.heap.size w w' → ARow w' z M) := fun w' b => Z.next b
  obtain ⟨ca, cc, rfl, hx⟩ := X
  obtain ⟨da, dc, rfl, hz⟩ := Z
  have HX := Hid.mk hx
  have HZ := Hid.mk hz
  clear hx hz
  cases hs : sdB sw sh
  · rw [show gsB sw sh L M = false by unfold gsB; rw [hs]; rfl]
    rw [hs] at HS
    generalize L.length = n at *
    generalize M.length = m at *
    clear hs HXX HZZ HX HZ
    go_enter Try.func12, Try.ntmps12
    go_wp2_with (go_at_call 15; refine (HS.out _).mono ?_; rintro e9 w9 ⟨rfl, hw⟩; subst w9)
    go_ret
    exact ⟨rfl, alloc_b⟩
  have hb := area_bnd hs
  rw [hs] at HS
  obtain ⟨B, hB⟩ : ∃ B, gsB sw sh L M = B := ⟨_, rfl⟩
  rw [hB]
  unfold gsB at hB
  rw [hs, Bool.true_and] at hB
  obtain ⟨P, hP⟩ : ∃ z, sw * sh = z := ⟨_, rfl⟩
  rw [hP] at hb hB
  obtain ⟨b0, b1⟩ := hb
  have hPw : IntKind.i64.wrap P = P := (IntKind.wrap_i64 _).trans (by omega)
  clear hs
  by_cases c1 : (L.length : Int) = P
  case neg =>
    rw [decide_eq_false c1] at hB
    obtain rfl : B = false := by rw [← hB]; rfl
    generalize L.length = n at *
    generalize M.length = m at *
    have c2 : ((n : Int) == P) = false := by simp; exact c1
    have c3 : ((n : Int) != P) = true := by simp; exact c1
    clear hB HXX HZZ HX HZ
    go_enter Try.func12, Try.ntmps12
    go_wp2_with (go_at_call 15; refine (HS.out _).mono ?_; rintro e9 w9 ⟨rfl, hw⟩; subst w9)
    go_ret
    exact ⟨rfl, alloc_b⟩
  by_cases d1 : (M.length : Int) = P
  case neg =>
    rw [decide_eq_false d1, Bool.and_false] at hB
    obtain rfl : B = false := by rw [← hB]; rfl
    generalize L.length = n at *
    generalize M.length = m at *
    have d2 : ((m : Int) == P) = false := by simp; exact d1
    have d3 : ((m : Int) != P) = true := by simp; exact d1
    have d4 : ¬ (m : Int) = (n : Int) := by omega
    have d5 : ((m : Int) == (n : Int)) = false := by simp; omega
    have d6 : ((m : Int) != (n : Int)) = true := by simp; omega
    clear hB HXX HZZ HX HZ
    go_enter Try.func12, Try.ntmps12
    go_wp2_with (go_at_call 15; refine (HS.out _).mono ?_; rintro e9 w9 ⟨rfl, hw⟩; subst w9)
    go_ret
    exact ⟨rfl, alloc_b⟩
  rw [decide_eq_true c1, decide_eq_true d1, Bool.true_and, Bool.true_and] at hB
  have HB := Hid.mk hB
  clear hB
  have HF1 : Hid (∀ i, i < L.length → kgB (L.getD i dC) = false → B = false) := fun i hi h => by
    rw [← HB.out]
    have : L.all kgB = false := by
      rw [List.all_eq_false]
      exact ⟨L.getD i dC, by simp [List.getD, hi], by rw [h]; decide⟩
    rw [this]; rfl
  have HF2 : Hid (∀ i, i < M.length → dgB (M.getD i 0) = false → B = false) := fun i hi h => by
    rw [← HB.out]
    have : M.all dgB = false := by
      rw [List.all_eq_false]
      exact ⟨M.getD i 0, by simp [List.getD, hi], by rw [h]; decide⟩
    rw [this, Bool.and_false]
  have HT : Hid ((∀ i, i < L.length → kgB (L.getD i dC) = true ∧ dgB (M.getD i 0) = true) → B = true) := fun h => by
    rw [← HB.out, Bool.and_eq_true, List.all_eq_true, List.all_eq_true]
    refine ⟨fun x hx => ?_, fun x hx => ?_⟩
    · obtain ⟨i, hi, rfl⟩ := List.getElem_of_mem hx
      have := (h i hi).1
      simpa [List.getD, hi] using this
    · obtain ⟨i, hi, rfl⟩ := List.getElem_of_mem hx
      have := (h i (by omega)).2
      simpa [List.getD, hi] using this
  clear HB
  generalize L.length = n at *
  have hmn : M.length = n := by omega
  rw [hmn] at HZ HF2 d1 hm ⊢
  clear hmn HXX HZZ
  have c9 : (n : Int) = P := c1
  have T0 := C4.new w 27 (.int .i64 sw) (.int .i64 sh) (.slice ca n cc) (.slice da n dc)
  have hb0 : Below w.heap.size w (w.alloc (.cells #[.int .i64 sw, .int .i64 sh, .slice ca n cc, .slice da n dc] 27)) := alloc_b
  have HB0 := Hid.mk hb0
  have c2 : ((n : Int) == P) = true := by simp; exact c1
  have c3 : ((n : Int) != P) = false := by simp; exact c1
  obtain ⟨W, hW⟩ : ∃ z, w.alloc (.cells #[.int .i64 sw, .int .i64 sh, .slice ca n cc, .slice da n dc] 27) = z := ⟨_, rfl⟩
  have HWE := Hid.mk hW
  rw [hW] at T0 HB0
  clear hb0 hW
  have t0 := T0.c0
  have t1 := T0.c1
  have t2 := T0.c2
  have t3 := T0.c3
  have HPE := Hid.mk c1
  clear c9 d1 c1
  go_enter Try.func12, Try.ntmps12
  go_upto_region 1 with fail
  rw [HWE.out]
  clear HWE
  go_upto_region 4 with (go_at_call 15; refine (HS.out _).mono ?_; rintro e9 w9 ⟨rfl, hw⟩; subst w9)
  clear t0 t1 t2 t3
  go_loopw [33] (fun i wr => ∃ k : Nat, k ≤ n ∧ i = .int .i64 k ∧ Hid (∀ i, i < k → kgB (L.getD i dC) = true ∧ dgB (M.getD i 0) = true) ∧ Below W.heap.size W wr) (fun i _ => n - (intOf i).toNat)
  case atStart => exact ⟨0, Nat.zero_le _, rfl, fun i hi => absurd hi (Nat.not_lt_zero _), Below.refl _ _⟩
  case round =>
    obtain ⟨k, hk, rfl, HK, BR⟩ := hrel
    by_cases hkn : k < n
    · have i1 : (k : Int) < (n : Int) := by omega
      have i0 : (0 : Int) ≤ (k : Int) := by omega
      obtain ⟨g, o, rfl, h0, h1, h2, h3⟩ := HX.out k hkn
      obtain ⟨g', o', rfl, h4⟩ := HZ.out k hkn
      have BW : Below w.heap.size w wr := HB0.out.trans (BR.mono HB0.out.size)
      have TR := T0.next BR
      have HE : Hid (∀ w', Below wr.heap.size wr w' → C4 w' w.heap.size (.int .i64 sw) (.int .i64 sh) (.slice (some ⟨g, o, none⟩) n cc) (.slice (some ⟨g', o', none⟩) n dc) ∧ w'.cell? ⟨g', o' + k, none⟩ = some (.int .i64 (M.getD k 0)) ∧ Below w.heap.size w w' ∧ Below W.heap.size W w') := fun w' b => ⟨TR.next b, cell_nx (cell_nx h4 BW) b, BW.trans (b.mono BW.size), BR.trans (b.mono BR.size)⟩
      replace h0 := cell_nx h0 BW
      replace h1 := cell_nx h1 BW
      replace h2 := cell_nx h2 BW
      replace h3 := cell_nx h3 BW
      have HG : Hid (∀ w, Calls Try.prog 16 #[.agg #[.int .i64 (L.getD k dC).r, .int .i64 (L.getD k dC).g, .int .i64 (L.getD k dC).b, .int .i64 (L.getD k dC).a]] w fun e w' => e = .returned (.bool (kgB (L.getD k dC))) ∧ Below w.heap.size w w') := fun w => good11 _ _ _ _ w
      have HN : Hid (kgB (L.getD k dC) = true → dgB (M.getD k 0) = true → ∀ i, i < k + 1 → kgB (L.getD i dC) = true ∧ dgB (M.getD i 0) = true) := fun a b i hi => by
        by_cases e : i = k
        · subst e; exact ⟨a, b⟩
        · exact HK.out i (by omega)
      have HG1 := Hid.mk (HF1.out k hkn)
      have HG2 := Hid.mk (HF2.out k hkn)
      generalize L.getD k dC = q at h0 h1 h2 h3 HG HN HG1
      generalize M.getD k 0 = y at HE HN HG2
      have t0 := TR.c0
      have t1 := TR.c1
      have t2 := TR.c2
      have t3 := TR.c3
      clear TR h4
      cases hq : kgB q
      · obtain rfl : B = false := HG1.out hq
        rw [hq] at HG
        clear HN HG1 HG2 hq
        go_wp2_with (go_at_call 16; refine (HG.out _).mono ?_; rintro e9 w2 ⟨rfl, B2⟩)
        go_ret
        exact ⟨rfl, BW.trans (B2.mono BW.size)⟩
      rw [hq] at HG
      have arm := True.intro
      by_cases y0 : 0 ≤ y
      case neg =>
        have g0 : y < 0 := by omega
        obtain rfl : B = false := HG2.out (by unfold dgB; rw [decide_eq_false y0]; rfl)
        clear HN HG1 HG2 hq
        go_wp2_with (go_at_call 16; refine (HG.out _).mono ?_; rintro e9 w2 ⟨rfl, B2⟩; (obtain ⟨U2, e4, BV, BU⟩ := HE.out w2 B2); (have u0 := U2.c0); (have u1 := U2.c1); (have u2 := U2.c2); (have u3 := U2.c3))
        go_ret
        exact ⟨rfl, BV⟩
      have g0 : ¬ y < 0 := by omega
      by_cases y1 : y ≤ 65536
      case neg =>
        have g1 : 65536 < y := by omega
        obtain rfl : B = false := HG2.out (by unfold dgB; rw [decide_eq_false y1, Bool.and_false])
        clear HN HG1 HG2 hq
        go_wp2_with (go_at_call 16; refine (HG.out _).mono ?_; rintro e9 w2 ⟨rfl, B2⟩; (obtain ⟨U2, e4, BV, BU⟩ := HE.out w2 B2); (have u0 := U2.c0); (have u1 := U2.c1); (have u2 := U2.c2); (have u3 := U2.c3))
        go_ret
        exact ⟨rfl, BV⟩
      have g1 : ¬ 65536 < y := by omega
      have HN2 := Hid.mk (HN.out hq (by unfold dgB; rw [decide_eq_true y0, decide_eq_true y1]; rfl))
      clear HN HG1 HG2 hq
      go_wp2_with (go_at_call 16; refine (HG.out _).mono ?_; rintro e9 w2 ⟨rfl, B2⟩; (obtain ⟨U2, e4, BV, BU⟩ := HE.out w2 B2); (have u0 := U2.c0); (have u1 := U2.c1); (have u2 := U2.c2); (have u3 := U2.c3))
      go_roundw
      case rel => exact ⟨k + 1, by omega, by go_num, HN2, BU⟩
      case measure => simp [intOf]; omega
    · obtain rfl : n = k := by omega
      have i1 : ¬ (n : Int) < (n : Int) := by omega
      obtain rfl : B = true := HT.out HK.out
      go_wp2
      go_ret
      exact ⟨rfl, HB0.out.trans (BR.mono HB0.out.size)⟩
end Go.Proofs.Ytkngjngmalogaaa
