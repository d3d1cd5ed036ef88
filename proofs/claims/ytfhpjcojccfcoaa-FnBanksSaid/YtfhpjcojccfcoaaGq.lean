/- GoodCache and NewCache of the program. -/
import Derived.Test.YtfhpjcojccfcoaaGp
namespace Go.Proofs.Ytfhpjcojccfcoaa
open Go.ChangeShapes Go.WideShapes Go.ChangeAt Go.RowKit
set_option linter.unusedVariables false
set_option maxRecDepth 100000 in
set_option maxHeartbeats 1000000 in
theorem pgood (s y l p : Int) (v : Value) (c : Int) (n : Nat) (f : Nat → List Int) (w : World) (R : ARows w v n f) (hn : n ≤ 1048576) (hfl : ∀ x, x < n → (f x).length ≤ 1048576) : Calls Try.prog 31 #[.agg #[.int .i64 s, .int .i64 y, .int .i64 l, .int .i64 p, v, .int .i64 c]] w fun e w' => e = .returned (.bool (goodB s y l p n f c)) ∧ Below w.heap.size w w' := by
  have HGB : Hid (goodB s y l p n f c = ((pwB s 1 64 && ((decide (1 ≤ y) && decide (y ≤ 8)) && (pwB l 16 256 && (decide (1 ≤ p) && decide (p ≤ 3))))) && (decide ((n : Int) = s) && ((decide (0 ≤ c) && decide (c ≤ 65535)) && allN (fun x => setB s y x (f x)) n)))) := rfl
  generalize goodB s y l p n f c = GB at HGB ⊢
  obtain ⟨W, hW⟩ : ∃ W, W = w.alloc (.cells #[.int .i64 s, .int .i64 y, .int .i64 l, .int .i64 p, v, .int .i64 c] 42) := ⟨_, rfl⟩
  have BW : Below w.heap.size w W := by rw [hW]; exact alloc_b
  have HBW : Hid (∀ w', Below W.heap.size W w' → Below w.heap.size w w') := fun w' b => BW.trans (b.mono BW.size)
  have CW : C6 W w.heap.size (.int .i64 s) (.int .i64 y) (.int .i64 l) (.int .i64 p) v (.int .i64 c) := by rw [hW]; exact C6.new _ _ _ _ _ _ _ _
  have HCW : Hid (∀ w', Below W.heap.size W w' → C6 w' w.heap.size (.int .i64 s) (.int .i64 y) (.int .i64 l) (.int .i64 p) v (.int .i64 c)) := fun w' b => CW.next b
  have HR : Hid (∀ w', Below W.heap.size W w' → ARows w' v n f) := fun w' b => (R.next BW).next b
  have HFL := Hid.mk hfl
  obtain ⟨ad, cp, rfl, _⟩ := R
  clear BW CW hfl
  subst hW
  cases hs : pwB s 1 64
  case false =>
    have HGF : Hid (GB = false) := by show _ = _; rw [HGB.out, hs]; simp
    have HP1 : Hid (∀ w, Calls Try.prog 49 #[.int .i64 s, .int .i64 1, .int .i64 64] w fun e w' => e = .returned (.bool false) ∧ w' = w) := fun w => by have := ppower s 1 64 w (by decide) (by decide); rwa [hs] at this
    clear hs
    clear HGB HR
    go_enter Try.func31, Try.ntmps31
    go_wp2_with (first | (go_at_call 49; (with_reducible show Calls Try.prog 49 #[.int .i64 s, .int .i64 1, .int .i64 64] _ _); refine (HP1.out _).mono ?_; rintro e w3 ⟨rfl, hw3⟩; subst w3))
    go_ret
    exact ⟨by rw [HGF.out]; rfl, HBW.out _ (Below.refl _ _)⟩
  have HP1 : Hid (∀ w, Calls Try.prog 49 #[.int .i64 s, .int .i64 1, .int .i64 64] w fun e w' => e = .returned (.bool true) ∧ w' = w) := fun w => by have := ppower s 1 64 w (by decide) (by decide); rwa [hs] at this
  cases hl : pwB l 16 256
  case false =>
    have HGF : Hid (GB = false) := by show _ = _; rw [HGB.out, hl]; simp
    have HP2 : Hid (∀ w, Calls Try.prog 49 #[.int .i64 l, .int .i64 16, .int .i64 256] w fun e w' => e = .returned (.bool false) ∧ w' = w) := fun w => by have := ppower l 16 256 w (by decide) (by decide); rwa [hl] at this
    clear hl
    clear HGB HR
    go_enter Try.func31, Try.ntmps31
    go_wp2_with (first | (go_at_call 49; (with_reducible show Calls Try.prog 49 #[.int .i64 s, .int .i64 1, .int .i64 64] _ _); refine (HP1.out _).mono ?_; rintro e w3 ⟨rfl, hw3⟩; subst w3) | (go_at_call 49; (with_reducible show Calls Try.prog 49 #[.int .i64 l, .int .i64 16, .int .i64 256] _ _); refine (HP2.out _).mono ?_; rintro e w3 ⟨rfl, hw3⟩; subst w3))
    go_ret
    exact ⟨by rw [HGF.out]; rfl, HBW.out _ (Below.refl _ _)⟩
  have HP2 : Hid (∀ w, Calls Try.prog 49 #[.int .i64 l, .int .i64 16, .int .i64 256] w fun e w' => e = .returned (.bool true) ∧ w' = w) := fun w => by have := ppower l 16 256 w (by decide) (by decide); rwa [hl] at this
  by_cases e1 : (n : Int) = s
  case neg =>
    have e2 : ¬ (n : Int) = s := e1
    have HGF : Hid (GB = false) := by show _ = _; rw [HGB.out, decide_eq_false e1]; simp
    clear HGB HR
    go_enter Try.func31, Try.ntmps31
    go_wp2_with (first | (go_at_call 49; (with_reducible show Calls Try.prog 49 #[.int .i64 s, .int .i64 1, .int .i64 64] _ _); refine (HP1.out _).mono ?_; rintro e w3 ⟨rfl, hw3⟩; subst w3) | (go_at_call 49; (with_reducible show Calls Try.prog 49 #[.int .i64 l, .int .i64 16, .int .i64 256] _ _); refine (HP2.out _).mono ?_; rintro e w3 ⟨rfl, hw3⟩; subst w3))
    go_ret
    exact ⟨by rw [HGF.out]; rfl, HBW.out _ (Below.refl _ _)⟩
  cases hy : decide (1 ≤ y) && decide (y ≤ 8)
  case false =>
    have HGF : Hid (GB = false) := by show _ = _; rw [HGB.out, hy]; simp
    have HP3 : Hid (∀ w, Calls Try.prog 61 #[.int .i64 y] w fun e w' => e = .returned (.bool false) ∧ w' = w) := fun w => by have := pways y w; rwa [hy] at this
    clear hy
    clear HGB HR
    go_enter Try.func31, Try.ntmps31
    go_wp2_with (first | (go_at_call 49; (with_reducible show Calls Try.prog 49 #[.int .i64 s, .int .i64 1, .int .i64 64] _ _); refine (HP1.out _).mono ?_; rintro e w3 ⟨rfl, hw3⟩; subst w3) | (go_at_call 49; (with_reducible show Calls Try.prog 49 #[.int .i64 l, .int .i64 16, .int .i64 256] _ _); refine (HP2.out _).mono ?_; rintro e w3 ⟨rfl, hw3⟩; subst w3) | (go_at_call 61; refine (HP3.out _).mono ?_; rintro e w3 ⟨rfl, hw3⟩; subst w3))
    go_ret
    exact ⟨by rw [HGF.out]; rfl, HBW.out _ (Below.refl _ _)⟩
  have HP3 : Hid (∀ w, Calls Try.prog 61 #[.int .i64 y] w fun e w' => e = .returned (.bool true) ∧ w' = w) := fun w => by have := pways y w; rwa [hy] at this
  by_cases p1 : 1 ≤ p
  case neg =>
    have p2 : p < 1 := by omega
    have HGF : Hid (GB = false) := by show _ = _; rw [HGB.out, decide_eq_false p1]; simp
    clear HGB HR
    go_enter Try.func31, Try.ntmps31
    go_wp2_with (first | (go_at_call 49; (with_reducible show Calls Try.prog 49 #[.int .i64 s, .int .i64 1, .int .i64 64] _ _); refine (HP1.out _).mono ?_; rintro e w3 ⟨rfl, hw3⟩; subst w3) | (go_at_call 49; (with_reducible show Calls Try.prog 49 #[.int .i64 l, .int .i64 16, .int .i64 256] _ _); refine (HP2.out _).mono ?_; rintro e w3 ⟨rfl, hw3⟩; subst w3) | (go_at_call 61; refine (HP3.out _).mono ?_; rintro e w3 ⟨rfl, hw3⟩; subst w3))
    go_ret
    exact ⟨by rw [HGF.out]; rfl, HBW.out _ (Below.refl _ _)⟩
  have p2 : ¬ p < 1 := by omega
  by_cases p3 : p ≤ 3
  case neg =>
    have p4 : 3 < p := by omega
    have HGF : Hid (GB = false) := by show _ = _; rw [HGB.out, decide_eq_false p3]; simp
    clear HGB HR
    go_enter Try.func31, Try.ntmps31
    go_wp2_with (first | (go_at_call 49; (with_reducible show Calls Try.prog 49 #[.int .i64 s, .int .i64 1, .int .i64 64] _ _); refine (HP1.out _).mono ?_; rintro e w3 ⟨rfl, hw3⟩; subst w3) | (go_at_call 49; (with_reducible show Calls Try.prog 49 #[.int .i64 l, .int .i64 16, .int .i64 256] _ _); refine (HP2.out _).mono ?_; rintro e w3 ⟨rfl, hw3⟩; subst w3) | (go_at_call 61; refine (HP3.out _).mono ?_; rintro e w3 ⟨rfl, hw3⟩; subst w3))
    go_ret
    exact ⟨by rw [HGF.out]; rfl, HBW.out _ (Below.refl _ _)⟩
  have p4 : ¬ 3 < p := by omega
  by_cases c1 : 0 ≤ c
  case neg =>
    have c2 : c < 0 := by omega
    have HGF : Hid (GB = false) := by show _ = _; rw [HGB.out, decide_eq_false c1]; simp
    clear HGB HR
    go_enter Try.func31, Try.ntmps31
    go_wp2_with (first | (go_at_call 49; (with_reducible show Calls Try.prog 49 #[.int .i64 s, .int .i64 1, .int .i64 64] _ _); refine (HP1.out _).mono ?_; rintro e w3 ⟨rfl, hw3⟩; subst w3) | (go_at_call 49; (with_reducible show Calls Try.prog 49 #[.int .i64 l, .int .i64 16, .int .i64 256] _ _); refine (HP2.out _).mono ?_; rintro e w3 ⟨rfl, hw3⟩; subst w3) | (go_at_call 61; refine (HP3.out _).mono ?_; rintro e w3 ⟨rfl, hw3⟩; subst w3))
    go_ret
    exact ⟨by rw [HGF.out]; rfl, HBW.out _ (Below.refl _ _)⟩
  have c2 : ¬ c < 0 := by omega
  by_cases c3 : c ≤ 65535
  case neg =>
    have c4 : 65536 ≤ c := by omega
    have HGF : Hid (GB = false) := by show _ = _; rw [HGB.out, decide_eq_false c3]; simp
    clear HGB HR
    go_enter Try.func31, Try.ntmps31
    go_wp2_with (first | (go_at_call 49; (with_reducible show Calls Try.prog 49 #[.int .i64 s, .int .i64 1, .int .i64 64] _ _); refine (HP1.out _).mono ?_; rintro e w3 ⟨rfl, hw3⟩; subst w3) | (go_at_call 49; (with_reducible show Calls Try.prog 49 #[.int .i64 l, .int .i64 16, .int .i64 256] _ _); refine (HP2.out _).mono ?_; rintro e w3 ⟨rfl, hw3⟩; subst w3) | (go_at_call 61; refine (HP3.out _).mono ?_; rintro e w3 ⟨rfl, hw3⟩; subst w3))
    go_ret
    exact ⟨by rw [HGF.out]; rfl, HBW.out _ (Below.refl _ _)⟩
  have c4 : ¬ 65536 ≤ c := by omega
  have s1 := (pwB_iff hs).1
  have s2 := (pwB_iff hs).2
  have y2 : y ≤ 8 := by simp only [Bool.and_eq_true, decide_eq_true_eq] at hy; exact hy.2
  have HG : Hid (GB = allN (fun x => setB s y x (f x)) n) := by show _ = _; rw [HGB.out, hs, hl, hy, decide_eq_true e1, decide_eq_true p1, decide_eq_true p3, decide_eq_true c1, decide_eq_true c3]; rfl
  have HGF : Hid (∀ x, x < n → setB s y x (f x) = false → GB = false) := fun x hx h => by rw [HG.out]; exact allN_no hx h
  have HGT : Hid ((∀ x, x < n → setB s y x (f x) = true) → GB = true) := fun h => by rw [HG.out]; exact (allN_iff _ n).2 h
  have n64 : n ≤ 64 := by omega
  have H62 : Hid (∀ k w', k < n → ARows w' (.slice ad n cp) n f → Calls Try.prog 62 #[.agg #[.int .i64 s, .int .i64 y, .int .i64 l, .int .i64 p, .slice ad n cp, .int .i64 c], .int .i64 (k : Int)] w' fun e w'' => e = .returned (.bool (setB s y k (f k))) ∧ Below w'.heap.size w' w'') := fun k w' hk r => pgset s y l p _ c n f k w' r hk s1 s2 y2 (HFL.out k hk) n64
  clear HG HGB c1 c3 p1 p3 hs hl hy
  go_enter Try.func31, Try.ntmps31
  go_wp2_with (first | (go_at_call 49; (with_reducible show Calls Try.prog 49 #[.int .i64 s, .int .i64 1, .int .i64 64] _ _); refine (HP1.out _).mono ?_; rintro e w3 ⟨rfl, hw3⟩; subst w3) | (go_at_call 49; (with_reducible show Calls Try.prog 49 #[.int .i64 l, .int .i64 16, .int .i64 256] _ _); refine (HP2.out _).mono ?_; rintro e w3 ⟨rfl, hw3⟩; subst w3) | (go_at_call 61; refine (HP3.out _).mono ?_; rintro e w3 ⟨rfl, hw3⟩; subst w3))
  obtain ⟨W, hW⟩ : ∃ W, W = w.alloc (.cells #[.int .i64 s, .int .i64 y, .int .i64 l, .int .i64 p, .slice ad n cp, .int .i64 c] 42) := ⟨_, rfl⟩
  rw [← hW] at HBW HCW HR ⊢
  clear hW HP1 HP2 HP3
  go_loopw [49] (fun i wr => ∃ k : Nat, k ≤ n ∧ i = .int .i64 k ∧ Hid (∀ x, x < k → setB s y x (f x) = true) ∧ Hid (Below W.heap.size W wr)) (fun i _ => n - (intOf i).toNat)
  case atStart => exact ⟨0, Nat.zero_le _, rfl, fun x hx => by omega, Below.refl _ _⟩
  case round =>
    obtain ⟨k, hk, rfl, HK, HB⟩ := hrel
    by_cases hkn : k < n
    case neg =>
      obtain rfl : n = k := by omega
      have i1 : ¬ (n : Int) < (n : Int) := by omega
      have HT := Hid.mk (HGT.out HK.out)
      go_wp2
      go_ret
      exact ⟨by rw [HT.out]; rfl, HBW.out _ HB.out⟩
    have i1 : (k : Int) < (n : Int) := by omega
    have i0 : (0 : Int) ≤ (k : Int) := by omega
    have CN := HCW.out _ HB.out
    have q0 := CN.c0
    have q1 := CN.c1
    have q2 := CN.c2
    have q3 := CN.c3
    have q4 := CN.c4
    have q5 := CN.c5
    have h62 := H62.out k wr hkn (HR.out _ HB.out)
    have HF2 := Hid.mk (HGF.out k hkn)
    have HK2 : Hid (setB s y k (f k) = true → ∀ x, x < k + 1 → setB s y x (f x) = true) := fun h x hx => by
      by_cases e : x = k
      · subst e; exact h
      · exact HK.out x (by omega)
    generalize setB s y k (f k) = SB at h62 HF2 HK2
    clear CN HK
    cases SB
    · have HF := Hid.mk (HF2.out rfl)
      clear HF2 HK2
      go_wp2_with (go_at_call 62; refine h62.mono ?_; rintro e w2 ⟨rfl, B2⟩)
      go_ret
      exact ⟨by rw [HF.out]; rfl, HBW.out _ (HB.out.trans (B2.mono HB.out.size))⟩
    · have HK3 := Hid.mk (HK2.out rfl)
      clear HF2 HK2
      go_wp2_with (go_at_call 62; refine h62.mono ?_; rintro e w2 ⟨rfl, B2⟩)
      go_roundw
      case rel => exact ⟨k + 1, by omega, by go_num, HK3, HB.out.trans (B2.mono HB.out.size)⟩
      case measure => simp [intOf]; omega
/-- n empty rows are a good cache's. -/
theorem good_new (s y l p : Int) (n : Nat) (hn : (n : Int) = s) : goodB s y l p n (fun _ => []) 0 = newB s y l p := by
  unfold goodB
  cases hb : newB s y l p
  · rfl
  · obtain ⟨_, hy, _⟩ := newB_iff hb
    rw [decide_eq_true hn, (allN_iff _ n).2 (fun x _ => ?_)]
    · rfl
    · show setB s y x [] = true
      unfold setB
      rw [decide_eq_true (by simp; omega)]
      rfl
set_option maxRecDepth 100000 in
set_option maxHeartbeats 1000000 in
theorem pnew (s y l p : Int) (w : World) : Calls Try.prog 24 #[.int .i64 s, .int .i64 y, .int .i64 l, .int .i64 p] w fun e w' => ∃ u, e = .returned (.tuple #[newV s y l p u, .bool (newB s y l p)]) ∧ (newB s y l p = true → ∃ (m : Nat) (g : Nat), s = (m : Int) ∧ u = .slice (some ⟨g, 0, none⟩) m m ∧ w.heap.size ≤ g ∧ Own w' g m (fun _ => .slice none 0 0)) ∧ Below w.heap.size w w' := by
  obtain ⟨iS, hiS, hzS0, hzS1, hzS2⟩ := info_parts infoS
  have HNB : Hid (newB s y l p = (pwB s 1 64 && ((decide (1 ≤ y) && decide (y ≤ 8)) && (pwB l 16 256 && (decide (1 ≤ p) && decide (p ≤ 3)))))) := rfl
  have HAG : Hid (∀ u, newV s y l p u = if newB s y l p = true then .agg #[.int .i64 s, .int .i64 y, .int .i64 l, .int .i64 p, u, .int .i64 0] else (.agg #[.int .i64 0, .int .i64 0, .int .i64 0, .int .i64 0, .slice none 0 0, .int .i64 0])) := fun u => rfl
  have HGN : Hid (∀ n : Nat, (n : Int) = s → goodB s y l p n (fun _ => []) 0 = newB s y l p) := good_new s y l p
  generalize newV s y l p = AG at HAG ⊢
  generalize newB s y l p = NB at HNB HAG HGN ⊢
  cases hs : pwB s 1 64
  case false =>
    have HBF : Hid (NB = false) := by show _ = _; rw [HNB.out, hs]; simp
    have HZ : Hid (∀ u, AG u = (.agg #[.int .i64 0, .int .i64 0, .int .i64 0, .int .i64 0, .slice none 0 0, .int .i64 0])) := fun u => by rw [HAG.out, HBF.out]; rfl
    have HP1 : Hid (∀ w, Calls Try.prog 49 #[.int .i64 s, .int .i64 1, .int .i64 64] w fun e w' => e = .returned (.bool false) ∧ w' = w) := fun w => by have := ppower s 1 64 w (by decide) (by decide); rwa [hs] at this
    clear hs
    go_enter Try.func24, Try.ntmps24
    go_wp2_with ((go_at_call 49; (with_reducible show Calls Try.prog 49 #[.int .i64 s, .int .i64 1, .int .i64 64] _ _); refine (HP1.out _).mono ?_; rintro e w3 ⟨rfl, hw3⟩; subst w3))
    exact bodyPost_ret (v := .tuple #[(.agg #[.int .i64 0, .int .i64 0, .int .i64 0, .int .i64 0, .slice none 0 0, .int .i64 0]), .bool false]) (by simp [results, Try.results24, go_sem]) rfl ⟨.slice none 0 0, by rw [HBF.out, HZ.out], fun h => absurd h (by rw [HBF.out]; decide), (Below.refl _ _).alloc (Nat.le_refl _) _⟩
  have HP1 : Hid (∀ w, Calls Try.prog 49 #[.int .i64 s, .int .i64 1, .int .i64 64] w fun e w' => e = .returned (.bool true) ∧ w' = w) := fun w => by have := ppower s 1 64 w (by decide) (by decide); rwa [hs] at this
  have m1 := (pwB_iff hs).1
  have m2 := (pwB_iff hs).2
  obtain ⟨m, rfl⟩ : ∃ m : Nat, s = (m : Int) := ⟨s.toNat, by omega⟩
  have mm : m ≤ 64 := by omega
  have H31 : Hid (∀ g w', Own w' g m (fun _ => .slice none 0 0) → Calls Try.prog 31 #[.agg #[.int .i64 (m : Int), .int .i64 y, .int .i64 l, .int .i64 p, .slice (some ⟨g, 0, none⟩) m m, .int .i64 0]] w' fun e w'' => e = .returned (.bool NB) ∧ Below w'.heap.size w' w'') := fun g w' O => by
    have := pgood (m : Int) y l p (.slice (some ⟨g, 0, none⟩) m m) 0 m (fun _ => []) w' ⟨_, _, rfl, fun i hi => ⟨g, 0, .slice none 0 0, rfl, by rw [Nat.zero_add]; exact O.cell i hi, ARow.none _ _ _ rfl⟩⟩ (by omega) (fun _ _ => Nat.zero_le _)
    rwa [HGN.out m rfl] at this
  clear hs HNB HGN
  cases NB
  all_goals
    go_enter Try.func24, Try.ntmps24
    go_wp2_with (first | (go_at_call 49; (with_reducible show Calls Try.prog 49 #[.int .i64 (m : Int), .int .i64 1, .int .i64 64] _ _); refine (HP1.out _).mono ?_; rintro e w3 ⟨rfl, hw3⟩; subst w3) | (at_make; refine wpList_make_full _ rfl _ _ 40 rfl w.heap.size 23 iS (.slice none 0 0) 1 Try.underlying40 hiS hzS0 hzS1 _ _ _ _ m rfl rfl (by first | rfl | omega) (by first | rfl | omega) (by rw [hzS2]; omega) (by unfold maxLen; omega) (by simp) ?_; intro w2 hown2 hgrow2; (have B2 := (show Below (w.heap.size + 1) (w.alloc (.cells #[.int .i64 0, .int .i64 0, .int .i64 0, .int .i64 0, .slice none 0 0, .int .i64 0] 42)) w2 from (Below.refl _ _).grown hgrow2 (by simp) (by simp))); (have C2 := (C6.new w 42 (.int .i64 0) (.int .i64 0) (.int .i64 0) (.int .i64 0) (.slice none 0 0) (.int .i64 0)).next (by rw [World.size_alloc]; exact B2)); (have O2 := (show Own w2 (w.heap.size + 1) m (fun _ => .slice none 0 0) by (have := own_made hown2); rwa [World.size_alloc] at this)); clear hown2 hgrow2) | (go_at_call 31; refine (H31.out (w.heap.size + 1) (w2.alloc (.cells #[.int .i64 (m : Int), .int .i64 y, .int .i64 l, .int .i64 p, .slice (some ⟨w.heap.size + 1, 0, none⟩) m m, .int .i64 0] 42)) (O2.next alloc_b)).mono ?_; rintro e w3 ⟨rfl, B3⟩; (have CX := (C6.new w2 42 (.int .i64 (m : Int)) (.int .i64 y) (.int .i64 l) (.int .i64 p) (.slice (some ⟨w.heap.size + 1, 0, none⟩) m m) (.int .i64 0)).next B3); (have e0 := CX.c0); (have e1 := CX.c1); (have e2 := CX.c2); (have e3 := CX.c3); (have e4 := CX.c4); (have e5 := CX.c5); (have C3 := (C2.next (alloc_b (o := .cells #[.int .i64 (m : Int), .int .i64 y, .int .i64 l, .int .i64 p, .slice (some ⟨w.heap.size + 1, 0, none⟩) m m, .int .i64 0] 42))).next B3); (have q0 := C3.c0); (have q1 := C3.c1); (have q2 := C3.c2); (have q3 := C3.c3); (have q4 := C3.c4); (have q5 := C3.c5); (have ff := C3.f)))
    have O3 : Own w3 (w.heap.size + 1) m (fun _ => .slice none 0 0) := (O2.next (alloc_b (o := .cells #[.int .i64 (m : Int), .int .i64 y, .int .i64 l, .int .i64 p, .slice (some ⟨w.heap.size + 1, 0, none⟩) m m, .int .i64 0] 42))).next B3
    have B03 : Below w.heap.size w w3 := (((Below.refl w.heap.size w).alloc (Nat.le_refl _) _).trans (B2.mono (by omega))).trans ((show Below w2.heap.size w2 w3 from (alloc_b (o := .cells #[.int .i64 (m : Int), .int .i64 y, .int .i64 l, .int .i64 p, .slice (some ⟨w.heap.size + 1, 0, none⟩) m m, .int .i64 0] 42)).trans (B3.mono (by rw [World.size_alloc]; omega))).mono (by have := C2.hi; omega))
  · have CN := C3.put (.int .i64 0) (.int .i64 0) (.int .i64 0) (.int .i64 0) (.slice none 0 0) (.int .i64 0)
    have BN : Below w.heap.size w (set6 w3 w.heap.size (.int .i64 0) (.int .i64 0) (.int .i64 0) (.int .i64 0) (.slice none 0 0) (.int .i64 0)) := B03.trans ((only_set6 w3 w.heap.size (.int .i64 0) (.int .i64 0) (.int .i64 0) (.int .i64 0) (.slice none 0 0) (.int .i64 0)).below (Nat.le_refl _) (by have := C3.hi; omega))
    clear O2 C2 q0 q1 q2 q3 q4 q5 ff B2 C3 CX e0 e1 e2 e3 e4 e5 B3 O3
    show bodyPost _ _ _ _ _ (set6 w3 w.heap.size (.int .i64 0) (.int .i64 0) (.int .i64 0) (.int .i64 0) (.slice none 0 0) (.int .i64 0))
    have r0 := CN.c0
    have r1 := CN.c1
    have r2 := CN.c2
    have r3 := CN.c3
    have r4 := CN.c4
    have r5 := CN.c5
    generalize set6 w3 w.heap.size (.int .i64 0) (.int .i64 0) (.int .i64 0) (.int .i64 0) (.slice none 0 0) (.int .i64 0) = W at *
    exact bodyPost_ret (v := .tuple #[(.agg #[.int .i64 0, .int .i64 0, .int .i64 0, .int .i64 0, .slice none 0 0, .int .i64 0]), .bool false]) (by simp [results, Try.results24, go_sem, r0, r1, r2, r3, r4, r5]) rfl ⟨.slice none 0 0, by rw [HAG.out]; rfl, fun h => absurd h (by decide), BN⟩
  · have CN := C3.put (.int .i64 (m : Int)) (.int .i64 y) (.int .i64 l) (.int .i64 p) (.slice (some ⟨w.heap.size + 1, 0, none⟩) m m) (.int .i64 0)
    have ON := O3.but (only_set6 w3 w.heap.size (.int .i64 (m : Int)) (.int .i64 y) (.int .i64 l) (.int .i64 p) (.slice (some ⟨w.heap.size + 1, 0, none⟩) m m) (.int .i64 0)) (by omega)
    have BN : Below w.heap.size w (set6 w3 w.heap.size (.int .i64 (m : Int)) (.int .i64 y) (.int .i64 l) (.int .i64 p) (.slice (some ⟨w.heap.size + 1, 0, none⟩) m m) (.int .i64 0)) := B03.trans ((only_set6 w3 w.heap.size (.int .i64 (m : Int)) (.int .i64 y) (.int .i64 l) (.int .i64 p) (.slice (some ⟨w.heap.size + 1, 0, none⟩) m m) (.int .i64 0)).below (Nat.le_refl _) (by have := C3.hi; omega))
    clear O2 C2 q0 q1 q2 q3 q4 q5 ff B2 C3 CX e0 e1 e2 e3 e4 e5 B3 O3
    show bodyPost _ _ _ _ _ (set6 w3 w.heap.size (.int .i64 (m : Int)) (.int .i64 y) (.int .i64 l) (.int .i64 p) (.slice (some ⟨w.heap.size + 1, 0, none⟩) m m) (.int .i64 0))
    have r0 := CN.c0
    have r1 := CN.c1
    have r2 := CN.c2
    have r3 := CN.c3
    have r4 := CN.c4
    have r5 := CN.c5
    generalize set6 w3 w.heap.size (.int .i64 (m : Int)) (.int .i64 y) (.int .i64 l) (.int .i64 p) (.slice (some ⟨w.heap.size + 1, 0, none⟩) m m) (.int .i64 0) = W at *
    exact bodyPost_ret (v := .tuple #[.agg #[.int .i64 (m : Int), .int .i64 y, .int .i64 l, .int .i64 p, .slice (some ⟨w.heap.size + 1, 0, none⟩) m m, .int .i64 0], .bool true]) (by simp [results, Try.results24, go_sem, r0, r1, r2, r3, r4, r5]) rfl ⟨_, by rw [HAG.out]; rfl, fun _ => ⟨m, w.heap.size + 1, rfl, rfl, by omega, ON⟩, BN⟩
end Go.Proofs.Ytfhpjcojccfcoaa
