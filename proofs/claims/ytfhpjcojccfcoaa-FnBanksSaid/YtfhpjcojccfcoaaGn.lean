/- NewCache and GoodCache of the model. -/
import Derived.Test.YtfhpjcojccfcoaaSt
namespace Go.Proofs.Ytfhpjcojccfcoaa
open Go.ChangeShapes Go.WideShapes Go.ChangeAt Go.RowKit
set_option linter.unusedVariables false
theorem infoS : (Try.prog.info? 23).map (fun i => (i.zero, i.size, i.bytes)) = some (some (.slice none 0 0), 1, 24) := by kernel_rfl
/-- A new cache, or the zero one. -/
def newV (s y l p : Int) (u : Value) : Value := if newB s y l p = true then .agg #[.int .i64 s, .int .i64 y, .int .i64 l, .int .i64 p, u, .int .i64 0] else (.agg #[.int .i64 0, .int .i64 0, .int .i64 0, .int .i64 0, .slice none 0 0, .int .i64 0])
set_option maxRecDepth 100000 in
set_option maxHeartbeats 600000 in
theorem mnew (s y l p : Int) (w : World) : Calls Try.prog 23 #[.int .i64 s, .int .i64 y, .int .i64 l, .int .i64 p] w fun e w' => ∃ u, e = .returned (.tuple #[newV s y l p u, .bool (newB s y l p)]) ∧ (newB s y l p = true → ∃ (m : Nat) (g : Nat), s = (m : Int) ∧ u = .slice (some ⟨g, 0, none⟩) m m ∧ w.heap.size ≤ g ∧ Own w' g m (fun _ => .slice none 0 0)) ∧ Below w.heap.size w w' := by
  obtain ⟨iS, hiS, hzS0, hzS1, hzS2⟩ := info_parts infoS
  have HNB : Hid (newB s y l p = (pwB s 1 64 && ((decide (1 ≤ y) && decide (y ≤ 8)) && (pwB l 16 256 && (decide (1 ≤ p) && decide (p ≤ 3)))))) := rfl
  have HAG : Hid (∀ u, newV s y l p u = if newB s y l p = true then .agg #[.int .i64 s, .int .i64 y, .int .i64 l, .int .i64 p, u, .int .i64 0] else (.agg #[.int .i64 0, .int .i64 0, .int .i64 0, .int .i64 0, .slice none 0 0, .int .i64 0])) := fun u => rfl
  generalize newV s y l p = AG at HAG ⊢
  generalize newB s y l p = NB at HNB HAG ⊢
  cases hs : pwB s 1 64
  case false =>
    have HBF : Hid (NB = false) := by show _ = _; rw [HNB.out, hs]; simp
    have HZ : Hid (∀ u, AG u = .agg #[.int .i64 0, .int .i64 0, .int .i64 0, .int .i64 0, .slice none 0 0, .int .i64 0]) := fun u => by rw [HAG.out, HBF.out]; rfl
    have HP1 : Hid (∀ w, Calls Try.prog 53 #[.int .i64 s, .int .i64 1, .int .i64 64] w fun e w' => e = .returned (.bool false) ∧ w' = w) := fun w => by have := mpower s 1 64 w (by decide) (by decide); rwa [hs] at this
    clear hs
    go_enter Try.func23, Try.ntmps23
    go_wp2_with (first | (go_at_call 53; (with_reducible show Calls Try.prog 53 #[.int .i64 s, .int .i64 1, .int .i64 64] _ _); refine (HP1.out _).mono ?_; rintro e w3 ⟨rfl, hw3⟩; subst w3))
    exact bodyPost_ret (v := .tuple #[.agg #[.int .i64 0, .int .i64 0, .int .i64 0, .int .i64 0, .slice none 0 0, .int .i64 0], .bool false]) (by simp [results, Try.results23, go_sem]) rfl ⟨.slice none 0 0, by rw [HBF.out, HZ.out], fun h => absurd h (by rw [HBF.out]; decide), (Below.refl _ _).alloc (Nat.le_refl _) _⟩
  have HP1 : Hid (∀ w, Calls Try.prog 53 #[.int .i64 s, .int .i64 1, .int .i64 64] w fun e w' => e = .returned (.bool true) ∧ w' = w) := fun w => by have := mpower s 1 64 w (by decide) (by decide); rwa [hs] at this
  by_cases y1 : 1 ≤ y
  case neg =>
    have y2 : y < 1 := by omega
    have HBF : Hid (NB = false) := by show _ = _; rw [HNB.out, decide_eq_false y1]; simp
    have HZ : Hid (∀ u, AG u = (.agg #[.int .i64 0, .int .i64 0, .int .i64 0, .int .i64 0, .slice none 0 0, .int .i64 0])) := fun u => by rw [HAG.out, HBF.out]; rfl
    clear y1
    go_enter Try.func23, Try.ntmps23
    go_wp2_with (first | (go_at_call 53; (with_reducible show Calls Try.prog 53 #[.int .i64 s, .int .i64 1, .int .i64 64] _ _); refine (HP1.out _).mono ?_; rintro e w3 ⟨rfl, hw3⟩; subst w3))
    exact bodyPost_ret (v := .tuple #[.agg #[.int .i64 0, .int .i64 0, .int .i64 0, .int .i64 0, .slice none 0 0, .int .i64 0], .bool false]) (by simp [results, Try.results23, go_sem]) rfl ⟨.slice none 0 0, by rw [HBF.out, HZ.out], fun h => absurd h (by rw [HBF.out]; decide), (Below.refl _ _).alloc (Nat.le_refl _) _⟩
  have y2 : ¬ y < 1 := by omega
  by_cases y3 : y ≤ 8
  case neg =>
    have y4 : 8 < y := by omega
    have HBF : Hid (NB = false) := by show _ = _; rw [HNB.out, decide_eq_false y3]; simp
    have HZ : Hid (∀ u, AG u = (.agg #[.int .i64 0, .int .i64 0, .int .i64 0, .int .i64 0, .slice none 0 0, .int .i64 0])) := fun u => by rw [HAG.out, HBF.out]; rfl
    clear y3
    go_enter Try.func23, Try.ntmps23
    go_wp2_with (first | (go_at_call 53; (with_reducible show Calls Try.prog 53 #[.int .i64 s, .int .i64 1, .int .i64 64] _ _); refine (HP1.out _).mono ?_; rintro e w3 ⟨rfl, hw3⟩; subst w3))
    exact bodyPost_ret (v := .tuple #[.agg #[.int .i64 0, .int .i64 0, .int .i64 0, .int .i64 0, .slice none 0 0, .int .i64 0], .bool false]) (by simp [results, Try.results23, go_sem]) rfl ⟨.slice none 0 0, by rw [HBF.out, HZ.out], fun h => absurd h (by rw [HBF.out]; decide), (Below.refl _ _).alloc (Nat.le_refl _) _⟩
  have y4 : ¬ 8 < y := by omega
  cases hl : pwB l 16 256
  case false =>
    have HBF : Hid (NB = false) := by show _ = _; rw [HNB.out, hl]; simp
    have HZ : Hid (∀ u, AG u = .agg #[.int .i64 0, .int .i64 0, .int .i64 0, .int .i64 0, .slice none 0 0, .int .i64 0]) := fun u => by rw [HAG.out, HBF.out]; rfl
    have HP2 : Hid (∀ w, Calls Try.prog 53 #[.int .i64 l, .int .i64 16, .int .i64 256] w fun e w' => e = .returned (.bool false) ∧ w' = w) := fun w => by have := mpower l 16 256 w (by decide) (by decide); rwa [hl] at this
    clear hs hl
    go_enter Try.func23, Try.ntmps23
    go_wp2_with (first | (go_at_call 53; (with_reducible show Calls Try.prog 53 #[.int .i64 s, .int .i64 1, .int .i64 64] _ _); refine (HP1.out _).mono ?_; rintro e w3 ⟨rfl, hw3⟩; subst w3) | (go_at_call 53; (with_reducible show Calls Try.prog 53 #[.int .i64 l, .int .i64 16, .int .i64 256] _ _); refine (HP2.out _).mono ?_; rintro e w3 ⟨rfl, hw3⟩; subst w3))
    exact bodyPost_ret (v := .tuple #[.agg #[.int .i64 0, .int .i64 0, .int .i64 0, .int .i64 0, .slice none 0 0, .int .i64 0], .bool false]) (by simp [results, Try.results23, go_sem]) rfl ⟨.slice none 0 0, by rw [HBF.out, HZ.out], fun h => absurd h (by rw [HBF.out]; decide), (Below.refl _ _).alloc (Nat.le_refl _) _⟩
  have HP2 : Hid (∀ w, Calls Try.prog 53 #[.int .i64 l, .int .i64 16, .int .i64 256] w fun e w' => e = .returned (.bool true) ∧ w' = w) := fun w => by have := mpower l 16 256 w (by decide) (by decide); rwa [hl] at this
  cases hp : decide (1 ≤ p) && decide (p ≤ 3)
  case false =>
    have HBF : Hid (NB = false) := by show _ = _; rw [HNB.out, hp]; simp
    have HZ : Hid (∀ u, AG u = .agg #[.int .i64 0, .int .i64 0, .int .i64 0, .int .i64 0, .slice none 0 0, .int .i64 0]) := fun u => by rw [HAG.out, HBF.out]; rfl
    have HP3 : Hid (∀ w, Calls Try.prog 55 #[.int .i64 p] w fun e w' => e = .returned (.bool false) ∧ w' = w) := fun w => by have := mpolicy p w; rwa [hp] at this
    clear hs hl hp
    go_enter Try.func23, Try.ntmps23
    go_wp2_with (first | (go_at_call 53; (with_reducible show Calls Try.prog 53 #[.int .i64 s, .int .i64 1, .int .i64 64] _ _); refine (HP1.out _).mono ?_; rintro e w3 ⟨rfl, hw3⟩; subst w3) | (go_at_call 53; (with_reducible show Calls Try.prog 53 #[.int .i64 l, .int .i64 16, .int .i64 256] _ _); refine (HP2.out _).mono ?_; rintro e w3 ⟨rfl, hw3⟩; subst w3) | (go_at_call 55; refine (HP3.out _).mono ?_; rintro e w3 ⟨rfl, hw3⟩; subst w3))
    exact bodyPost_ret (v := .tuple #[.agg #[.int .i64 0, .int .i64 0, .int .i64 0, .int .i64 0, .slice none 0 0, .int .i64 0], .bool false]) (by simp [results, Try.results23, go_sem]) rfl ⟨.slice none 0 0, by rw [HBF.out, HZ.out], fun h => absurd h (by rw [HBF.out]; decide), (Below.refl _ _).alloc (Nat.le_refl _) _⟩
  have HP3 : Hid (∀ w, Calls Try.prog 55 #[.int .i64 p] w fun e w' => e = .returned (.bool true) ∧ w' = w) := fun w => by have := mpolicy p w; rwa [hp] at this
  have HBT : Hid (NB = true) := by show _ = _; rw [HNB.out, hs, decide_eq_true y1, decide_eq_true y3, hl, hp]; rfl
  have HZ1 : Hid (∀ u, AG u = .agg #[.int .i64 s, .int .i64 y, .int .i64 l, .int .i64 p, u, .int .i64 0]) := fun u => by rw [HAG.out, HBT.out]; rfl
  have m1 := (pwB_iff hs).1
  have m2 := (pwB_iff hs).2
  obtain ⟨m, rfl⟩ : ∃ m : Nat, s = (m : Int) := ⟨s.toNat, by omega⟩
  have mm : m ≤ 64 := by omega
  clear hs hl hp HNB HAG
  go_enter Try.func23, Try.ntmps23
  go_wp2_with (first | (go_at_call 53; (with_reducible show Calls Try.prog 53 #[.int .i64 (m : Int), .int .i64 1, .int .i64 64] _ _); refine (HP1.out _).mono ?_; rintro e w3 ⟨rfl, hw3⟩; subst w3) | (go_at_call 53; (with_reducible show Calls Try.prog 53 #[.int .i64 l, .int .i64 16, .int .i64 256] _ _); refine (HP2.out _).mono ?_; rintro e w3 ⟨rfl, hw3⟩; subst w3) | (go_at_call 55; refine (HP3.out _).mono ?_; rintro e w3 ⟨rfl, hw3⟩; subst w3) | (at_make; refine wpList_make_full _ rfl _ _ 40 rfl w.heap.size 23 iS (.slice none 0 0) 1 Try.underlying40 hiS hzS0 hzS1 _ _ _ _ m rfl rfl (by first | rfl | omega) (by first | rfl | omega) (by rw [hzS2]; omega) (by unfold maxLen; omega) (by simp) ?_; intro w2 hown2 hgrow2; (have B2 := (show Below (w.heap.size + 1) (w.alloc (.cells #[.int .i64 0, .int .i64 0, .int .i64 0, .int .i64 0, .slice none 0 0, .int .i64 0] 42)) w2 from (Below.refl _ _).grown hgrow2 (by simp) (by simp))); (have C2 := (C6.new w 42 (.int .i64 0) (.int .i64 0) (.int .i64 0) (.int .i64 0) (.slice none 0 0) (.int .i64 0)).next (by rw [World.size_alloc]; exact B2)); (have q0 := C2.c0); (have q1 := C2.c1); (have q2 := C2.c2); (have q3 := C2.c3); (have q4 := C2.c4); (have q5 := C2.c5); (have ff := C2.f)))
  have O2 : Own w2 (w.heap.size + 1) m (fun _ => .slice none 0 0) := by have := own_made hown2; rwa [World.size_alloc] at this
  have CN := C2.put (.int .i64 (m : Int)) (.int .i64 y) (.int .i64 l) (.int .i64 p) (.slice (some ⟨w.heap.size + 1, 0, none⟩) m m) (.int .i64 0)
  have ON := O2.but (only_set6 w2 w.heap.size (.int .i64 (m : Int)) (.int .i64 y) (.int .i64 l) (.int .i64 p) (.slice (some ⟨w.heap.size + 1, 0, none⟩) m m) (.int .i64 0)) (by omega)
  have BN : Below w.heap.size w (set6 w2 w.heap.size (.int .i64 (m : Int)) (.int .i64 y) (.int .i64 l) (.int .i64 p) (.slice (some ⟨w.heap.size + 1, 0, none⟩) m m) (.int .i64 0)) := (((Below.refl w.heap.size w).alloc (Nat.le_refl _) _).trans (B2.mono (by omega))).trans ((only_set6 w2 w.heap.size (.int .i64 (m : Int)) (.int .i64 y) (.int .i64 l) (.int .i64 p) (.slice (some ⟨w.heap.size + 1, 0, none⟩) m m) (.int .i64 0)).below (Nat.le_refl _) (by have := C2.hi; omega))
  clear O2 C2 q0 q1 q2 q3 q4 q5 ff B2 hown2 hgrow2
  show bodyPost _ _ _ _ _ (set6 w2 w.heap.size (.int .i64 (m : Int)) (.int .i64 y) (.int .i64 l) (.int .i64 p) (.slice (some ⟨w.heap.size + 1, 0, none⟩) m m) (.int .i64 0))
  have r0 := CN.c0
  have r1 := CN.c1
  have r2 := CN.c2
  have r3 := CN.c3
  have r4 := CN.c4
  have r5 := CN.c5
  generalize set6 w2 w.heap.size (.int .i64 (m : Int)) (.int .i64 y) (.int .i64 l) (.int .i64 p) (.slice (some ⟨w.heap.size + 1, 0, none⟩) m m) (.int .i64 0) = W at *
  exact bodyPost_ret (v := .tuple #[.agg #[.int .i64 (m : Int), .int .i64 y, .int .i64 l, .int .i64 p, .slice (some ⟨w.heap.size + 1, 0, none⟩) m m, .int .i64 0], .bool true]) (by simp [results, Try.results23, go_sem, r0, r1, r2, r3, r4, r5]) rfl ⟨_, by rw [HBT.out, HZ1.out], fun _ => ⟨m, w.heap.size + 1, rfl, rfl, by omega, ON⟩, BN⟩
theorem newV_is (s y l p : Int) (a : Option Addr) (n c : Nat) : ∃ (a0 a1 a2 a3 a5 : Int) (x : Option Addr) (m k : Nat), newV s y l p (.slice a n c) = .agg #[.int .i64 a0, .int .i64 a1, .int .i64 a2, .int .i64 a3, .slice x m k, .int .i64 a5] := by
  unfold newV
  split
  · exact ⟨_, _, _, _, _, _, _, _, rfl⟩
  · exact ⟨_, _, _, _, _, _, _, _, rfl⟩
/-- .. as GoodCache asks it. -/
theorem mnew2 (s y l p : Int) (w : World) : Calls Try.prog 23 #[.int .i64 s, .int .i64 y, .int .i64 l, .int .i64 p] w fun e w' => (∃ (a0 a1 a2 a3 a5 : Int) (x : Option Addr) (m k : Nat), e = .returned (.tuple #[.agg #[.int .i64 a0, .int .i64 a1, .int .i64 a2, .int .i64 a3, .slice x m k, .int .i64 a5], .bool (newB s y l p)])) ∧ Below w.heap.size w w' := by
  refine (mnew s y l p w).mono ?_
  rintro e w' ⟨u, rfl, h2, B⟩
  refine ⟨?_, B⟩
  cases hb : newB s y l p
  · refine ⟨0, 0, 0, 0, 0, none, 0, 0, ?_⟩
    unfold newV
    rw [hb]
    rfl
  · obtain ⟨m, g, _, rfl, _⟩ := h2 hb
    obtain ⟨a0, a1, a2, a3, a5, x, m', k, h⟩ := newV_is s y l p (some ⟨g, 0, none⟩) m m
    exact ⟨a0, a1, a2, a3, a5, x, m', k, by rw [h]⟩
set_option maxRecDepth 100000 in
set_option maxHeartbeats 2000000 in
theorem mgood (s y l p : Int) (v : Value) (c : Int) (n : Nat) (f : Nat → List Int) (w : World) (R : ARowsC w v n f) (hn : n ≤ 1048576) (hfl : ∀ x, x < n → (f x).length ≤ 1048576) : Calls Try.prog 29 #[.agg #[.int .i64 s, .int .i64 y, .int .i64 l, .int .i64 p, v, .int .i64 c]] w fun e w' => e = .returned (.bool (goodB s y l p n f c)) ∧ Below w.heap.size w w' := by
  obtain ⟨W1, hW1⟩ : ∃ W, W = w.alloc (.cells #[.int .i64 s, .int .i64 y, .int .i64 l, .int .i64 p, v, .int .i64 c] 42) := ⟨_, rfl⟩
  have BW : Below w.heap.size w W1 := by rw [hW1]; exact alloc_b
  have CW : C6 W1 w.heap.size (.int .i64 s) (.int .i64 y) (.int .i64 l) (.int .i64 p) v (.int .i64 c) := by rw [hW1]; exact C6.new _ _ _ _ _ _ _ _
  have h23 := mnew2 s y l p W1
  have HBW : Hid (∀ w', Below W1.heap.size W1 w' → Below w.heap.size w w') := fun w' b => BW.trans (b.mono BW.size)
  have HCW : Hid (∀ w', Below W1.heap.size W1 w' → C6 w' w.heap.size (.int .i64 s) (.int .i64 y) (.int .i64 l) (.int .i64 p) v (.int .i64 c)) := fun w' b => CW.next b
  have HRW : Hid (∀ w', Below W1.heap.size W1 w' → ARowsC w' v n f) := fun w' b => (R.next BW).next b
  have HGB : Hid (goodB s y l p n f c = (newB s y l p && (decide ((n : Int) = s) && ((decide (0 ≤ c) && decide (c ≤ 65535)) && allN (fun x => setB s y x (f x)) n)))) := rfl
  have HNI : Hid (newB s y l p = true → pwB s 1 64 = true ∧ (1 ≤ y ∧ y ≤ 8) ∧ pwB l 16 256 = true ∧ 1 ≤ p ∧ p ≤ 3) := newB_iff
  have HFL := Hid.mk hfl
  generalize goodB s y l p n f c = GB at HGB ⊢
  obtain ⟨ad, cp, rfl, hncp, _⟩ := R
  generalize newB s y l p = NB at h23 HGB HNI
  clear BW CW hfl
  subst hW1
  cases NB
  case false =>
    have HGF : Hid (GB = false) := by show _ = _; rw [HGB.out]; rfl
    clear HGB HNI HRW
    go_enter Try.func29, Try.ntmps29
    go_wp2_with (go_at_call 23; refine h23.mono ?_; rintro e w2 ⟨⟨z0, z1, z2, z3, z5, zx, zm, zk, rfl⟩, B2⟩; (have C2 := HCW.out w2 B2); (have q0 := C2.c0); (have q1 := C2.c1); (have q2 := C2.c2); (have q3 := C2.c3); (have q4 := C2.c4); (have q5 := C2.c5); (have hlt := C2.hi))
    go_ret
    exact ⟨by rw [HGF.out]; rfl, (HBW.out _ B2).alloc (HBW.out _ B2).size _⟩
  obtain ⟨hs, hy, hl, hp⟩ := HNI.out rfl
  have s1 := (pwB_iff hs).1
  have s2 := (pwB_iff hs).2
  clear hs hl hp HNI
  by_cases e1 : (n : Int) = s
  case neg =>
    have e2 : ¬ (n : Int) = s := e1
    have HGF : Hid (GB = false) := by show _ = _; rw [HGB.out, decide_eq_false e1]; simp
    clear HGB HRW
    go_enter Try.func29, Try.ntmps29
    go_wp2_with (go_at_call 23; refine h23.mono ?_; rintro e w2 ⟨⟨z0, z1, z2, z3, z5, zx, zm, zk, rfl⟩, B2⟩; (have C2 := HCW.out w2 B2); (have q0 := C2.c0); (have q1 := C2.c1); (have q2 := C2.c2); (have q3 := C2.c3); (have q4 := C2.c4); (have q5 := C2.c5); (have hlt := C2.hi))
    go_ret
    exact ⟨by rw [HGF.out]; rfl, (HBW.out _ B2).alloc (HBW.out _ B2).size _⟩
  by_cases c1 : 0 ≤ c
  case neg =>
    have c2 : c < 0 := by omega
    have HGF : Hid (GB = false) := by show _ = _; rw [HGB.out, decide_eq_false c1]; simp
    clear HGB HRW
    go_enter Try.func29, Try.ntmps29
    go_wp2_with (go_at_call 23; refine h23.mono ?_; rintro e w2 ⟨⟨z0, z1, z2, z3, z5, zx, zm, zk, rfl⟩, B2⟩; (have C2 := HCW.out w2 B2); (have q0 := C2.c0); (have q1 := C2.c1); (have q2 := C2.c2); (have q3 := C2.c3); (have q4 := C2.c4); (have q5 := C2.c5); (have hlt := C2.hi))
    go_ret
    exact ⟨by rw [HGF.out]; rfl, (HBW.out _ B2).alloc (HBW.out _ B2).size _⟩
  by_cases c3 : c ≤ 65535
  case neg =>
    have c4 : 65535 < c := by omega
    have HGF : Hid (GB = false) := by show _ = _; rw [HGB.out, decide_eq_false c3]; simp
    clear HGB HRW
    go_enter Try.func29, Try.ntmps29
    go_wp2_with (go_at_call 23; refine h23.mono ?_; rintro e w2 ⟨⟨z0, z1, z2, z3, z5, zx, zm, zk, rfl⟩, B2⟩; (have C2 := HCW.out w2 B2); (have q0 := C2.c0); (have q1 := C2.c1); (have q2 := C2.c2); (have q3 := C2.c3); (have q4 := C2.c4); (have q5 := C2.c5); (have hlt := C2.hi))
    go_ret
    exact ⟨by rw [HGF.out]; rfl, (HBW.out _ B2).alloc (HBW.out _ B2).size _⟩
  subst e1
  have c2 : ¬ c < 0 := by omega
  have c4 : ¬ 65535 < c := by omega
  obtain ⟨y, rfl⟩ : ∃ y' : Nat, y = (y' : Int) := ⟨y.toNat, by omega⟩
  have HG : Hid (GB = allN (fun x => setB (n : Int) (y : Int) x (f x)) n) := by show _ = _; rw [HGB.out, decide_eq_true rfl, decide_eq_true c1, decide_eq_true c3]; rfl
  have HGF : Hid (∀ x, x < n → setB (n : Int) (y : Int) x (f x) = false → GB = false) := fun x hx h => by rw [HG.out]; exact allN_no hx h
  have HGT : Hid ((∀ x, x < n → setB (n : Int) (y : Int) x (f x) = true) → GB = true) := fun h => by rw [HG.out]; exact (allN_iff _ n).2 h
  have n1 : 1 ≤ n := by omega
  have n64 : n ≤ 64 := by omega
  clear HG HGB c1 c3
  go_enter Try.func29, Try.ntmps29
  go_wp2_with (go_at_call 23; refine h23.mono ?_; rintro e w2 ⟨⟨z0, z1, z2, z3, z5, zx, zm, zk, rfl⟩, B2⟩; (have C2 := HCW.out w2 B2); (have q0 := C2.c0); (have q1 := C2.c1); (have q2 := C2.c2); (have q3 := C2.c3); (have q4 := C2.c4); (have q5 := C2.c5); (have hlt := C2.hi))
  have BN : Hid (Below w.heap.size w (w2.alloc (.cells #[.int .i64 z0, .int .i64 z1, .int .i64 z2, .int .i64 z3, .slice zx zm zk, .int .i64 z5] 42))) := (HBW.out _ B2).alloc (HBW.out _ B2).size _
  have CN : C6 (w2.alloc (.cells #[.int .i64 z0, .int .i64 z1, .int .i64 z2, .int .i64 z3, .slice zx zm zk, .int .i64 z5] 42)) w.heap.size (.int .i64 (n : Int)) (.int .i64 (y : Int)) (.int .i64 l) (.int .i64 p) (.slice ad n cp) (.int .i64 c) := C2.next alloc_b
  have RN := (HRW.out _ B2).next (alloc_b (v := w2) (o := .cells #[.int .i64 z0, .int .i64 z1, .int .i64 z2, .int .i64 z3, .slice zx zm zk, .int .i64 z5] 42))
  clear q0 q1 q2 q3 q4 q5 hlt C2 B2 HBW HCW HRW h23
  generalize w2.alloc (.cells #[.int .i64 z0, .int .i64 z1, .int .i64 z2, .int .i64 z3, .slice zx zm zk, .int .i64 z5] 42) = W at BN CN RN ⊢
  have k0 := CN.c0
  have k1 := CN.c1
  obtain ⟨ad', cp', hv, _, hR⟩ := RN
  injection hv with hv1 hv2 hv3
  subst hv1; subst hv3
  have HR := Hid.mk hR
  clear hR hv2 CN
  go_loop [46] (fun i => ∃ k : Nat, k ≤ n ∧ i = .int .i64 k ∧ Hid (∀ x, x < k → setB (n : Int) (y : Int) x (f x) = true)) (fun i => n - (intOf i).toNat)
  case atStart => exact ⟨0, Nat.zero_le _, rfl, fun x hx => by omega⟩
  case round =>
    obtain ⟨k, hk, rfl, HK⟩ := hrel
    by_cases hkn : k < n
    case neg =>
      obtain rfl : n = k := by omega
      have i1 : ¬ (n : Int) < (n : Int) := by omega
      have HT := Hid.mk (HGT.out HK.out)
      go_wp2
      go_ret
      exact ⟨by rw [HT.out]; rfl, BN.out⟩
    have i1 : (k : Int) < (n : Int) := by omega
    have i0 : (0 : Int) ≤ (k : Int) := by omega
    obtain ⟨q, o, u, rfl, hc, hrow⟩ := HR.out k hkn
    obtain ⟨ra, rc, rfl, hrc, hrr⟩ := hrow
    have HF2 := Hid.mk (HGF.out k hkn)
    have HK2 : Hid (setB (n : Int) (y : Int) k (f k) = true → ∀ x, x < k + 1 → setB (n : Int) (y : Int) x (f x) = true) := fun h x hx => by
      by_cases e : x = k
      · subst e; exact h
      · exact HK.out x (by omega)
    have hlen := HFL.out k hkn
    have HSB : Hid (setB (n : Int) (y : Int) k (f k) = (decide (((f k).length : Int) ≤ (y : Int)) && ((f k).all (inS (n : Int) k) && decide (f k).Nodup))) := rfl
    generalize setB (n : Int) (y : Int) k (f k) = SB at HF2 HK2 HSB
    generalize f k = L at hc hrc hrr hlen HSB
    have HRR := Hid.mk hrr
    clear hrr HK
    by_cases g1 : L.length ≤ y
    case neg =>
      have g2 : (y : Int) < (L.length : Int) := by omega
      have HB := Hid.mk (HF2.out (by rw [HSB.out, decide_eq_false (by omega)]; rfl))
      clear HF2 HK2 HSB
      go_wp2
      go_ret
      exact ⟨by rw [HB.out]; rfl, BN.out⟩
    have g2 : ¬ (y : Int) < (L.length : Int) := by omega
    have HSB : Hid (SB = (L.all (inS (n : Int) k) && decide L.Nodup)) := by show _ = _; rw [HSB.out, decide_eq_true (by omega)]; rfl
    have HNO1 : Hid (∀ i, i < L.length → inS (n : Int) k (L.getD i 0) = false → GB = false) := fun i hi h => HF2.out (by rw [HSB.out, all_false hi h]; rfl)
    have HNO2 : Hid (¬ L.Nodup → GB = false) := fun h => HF2.out (by rw [HSB.out, decide_eq_false h, Bool.and_false])
    have HYES : Hid ((∀ i, i < L.length → inS (n : Int) k (L.getD i 0) = true) → (L.take L.length).Nodup → ∀ x, x < k + 1 → setB (n : Int) (y : Int) x (f x) = true) := fun h1 h2 => HK2.out (by rw [HSB.out, all_getD.2 h1, decide_eq_true (by rwa [List.take_length] at h2)]; rfl)
    have HND : Hid (∀ j, j < L.length → ((L.take (j + 1)).Nodup ↔ (L.take j).Nodup ∧ L.getD j 0 ∉ L.take j)) := fun j hj => by
      rw [take_snoc L j hj, List.nodup_append]
      constructor
      · rintro ⟨h1, _, h3⟩
        exact ⟨h1, fun h => h3 _ h _ (by simp) rfl⟩
      · rintro ⟨h1, h2⟩
        exact ⟨h1, by simp, fun a ha b hb e => by rw [List.mem_singleton] at hb; subst hb; subst e; exact h2 ha⟩
    have HNT : Hid (∀ j, L.Nodup → (L.take j).Nodup) := fun j h => h.sublist (List.take_sublist j L)
    have HMT : Hid (∀ j i, i < j → i < L.length → L.getD i 0 ∈ L.take j) := fun j i h1 h2 => by
      rw [List.mem_take_iff_getElem]
      exact ⟨i, by omega, by simp [List.getD, h2]⟩
    have HMO : Hid (∀ j x, j ≤ L.length → x ∈ L.take j → ∃ i, i < j ∧ L.getD i 0 = x) := fun j x hj h => by
      rw [List.mem_take_iff_getElem] at h
      obtain ⟨i, hi, h⟩ := h
      have : i < L.length := by omega
      exact ⟨i, by omega, by rw [← h]; simp [List.getD, this]⟩
    clear HF2 HK2 HSB
    obtain ⟨m, hm⟩ : ∃ m, L.length = m := ⟨_, rfl⟩
    rw [hm] at hc hrc HRR hlen HNO1 HYES HND HMT HMO g1 g2
    clear hm
    go_wp2
    go_loop [58] (fun i => ∃ j : Nat, j ≤ m ∧ i = .int .i64 j ∧ Hid (∀ i, i < j → inS (n : Int) k (L.getD i 0) = true) ∧ Hid ((L.take j).Nodup)) (fun i => m - (intOf i).toNat)
    case atStart => exact ⟨0, Nat.zero_le _, rfl, fun i hi => by omega, by show (L.take 0).Nodup; simp⟩
    case round =>
      obtain ⟨j, hj, rfl, HJ, HJN⟩ := hrel
      by_cases hjm : j < m
      case neg =>
        obtain rfl : m = j := by omega
        have j1 : ¬ (m : Int) < (m : Int) := by omega
        have HY := Hid.mk (HYES.out HJ.out HJN.out)
        go_wp2
        go_round
        case rel => exact ⟨k + 1, by omega, by go_num, HY⟩
        case measure => simp [intOf]; omega
      have j1 : (j : Int) < (m : Int) := by omega
      have j0 : (0 : Int) ≤ (j : Int) := by omega
      have jc : (j : Int) ≤ (rc : Int) := by omega
      obtain ⟨rg, ro, rfl, hcj⟩ := HRR.out j hjm
      have HNA := Hid.mk (HNO1.out j hjm)
      have HNB := Hid.mk (HND.out j hjm)
      have HIN : Hid (∀ v, inS (n : Int) k v = ((decide (0 ≤ v) && decide (v ≤ 1000000)) && (v % (n : Int) == (k : Int)))) := fun v => rfl
      have HCI : Hid (∀ i, i < j → W.cell? ⟨rg, ro + i, none⟩ = some (.int .i64 (L.getD i 0))) := fun i hi => by
        obtain ⟨g', o', e1, e2⟩ := HRR.out i (by omega)
        injection e1 with e1
        injection e1 with e1 e3
        subst e1; subst e3
        exact e2
      have HJ2 : Hid (inS (n : Int) k (L.getD j 0) = true → ∀ i, i < j + 1 → inS (n : Int) k (L.getD i 0) = true) := fun h i hi => by
        by_cases e : i = j
        · subst e; exact h
        · exact HJ.out i (by omega)
      generalize L.getD j 0 = x at hcj HNA HNB HJ2
      have HNA2 : Hid (inS (n : Int) k x = false → GB = false) := HNA
      clear HJ HNA
      by_cases x0 : 0 ≤ x
      case neg =>
        have x1 : x < 0 := by omega
        have HB := Hid.mk (HNA2.out (by rw [HIN.out, decide_eq_false x0]; rfl))
        clear x0
        go_wp2
        go_ret
        exact ⟨by rw [HB.out]; rfl, BN.out⟩
      have x1 : ¬ x < 0 := by omega
      by_cases x2 : x ≤ 1000000
      case neg =>
        have x3 : 1000000 < x := by omega
        have HB := Hid.mk (HNA2.out (by rw [HIN.out, decide_eq_false x2, Bool.and_false]; rfl))
        clear x2
        go_wp2
        go_ret
        exact ⟨by rw [HB.out]; rfl, BN.out⟩
      have x3 : ¬ 1000000 < x := by omega
      have s0 : ¬ (n : Int) = 0 := by omega
      have hm := tmod_small (s := (n : Int)) x0
      have HIN2 : Hid (inS (n : Int) k x = (x % (n : Int) == (k : Int))) := by show _ = _; rw [HIN.out, decide_eq_true x0, decide_eq_true x2]; rfl
      have r0 := Int.emod_nonneg x s0
      have r1 := Int.emod_lt_of_pos x (show 0 < (n : Int) by omega)
      generalize x % (n : Int) = r at hm HIN2 r0 r1
      by_cases hr : r = (k : Int)
      case neg =>
        have HB := Hid.mk (HNA2.out (by rw [HIN2.out]; exact beq_false_of_ne hr))
        go_wp2
        go_ret
        exact ⟨by rw [HB.out]; rfl, BN.out⟩
      have HJ3 := Hid.mk (HJ2.out (by rw [HIN2.out]; exact beq_iff_eq.2 hr))
      clear HNA2 HIN HIN2 HJ2
      subst hr
      go_wp2
      go_loop [81] (fun i => ∃ t : Nat, t ≤ j ∧ i = .int .i64 t ∧ Hid (∀ i, i < t → L.getD i 0 ≠ x)) (fun i => j - (intOf i).toNat)
      case atStart => exact ⟨0, Nat.zero_le _, rfl, fun i hi => by omega⟩
      case round =>
        obtain ⟨t, ht, rfl, HT⟩ := hrel
        by_cases htj : t < j
        case neg =>
          obtain rfl : j = t := by omega
          have t1 : ¬ (j : Int) < (j : Int) := by omega
          have HJN2 : Hid ((L.take (j + 1)).Nodup) := HNB.out.2 ⟨HJN.out, fun h => by
            obtain ⟨i, h1, h2⟩ := HMO.out j x hj h
            exact HT.out i h1 h2⟩
          go_wp2
          go_round
          case rel => exact ⟨j + 1, by omega, by go_num, HJ3, HJN2⟩
          case measure => simp [intOf]; omega
        have t1 : (t : Int) < (j : Int) := by omega
        have t0 : (0 : Int) ≤ (t : Int) := by omega
        have hct := HCI.out t htj
        have HMM := Hid.mk (HMT.out j t htj (by omega))
        have HT2 : Hid (L.getD t 0 ≠ x → ∀ i, i < t + 1 → L.getD i 0 ≠ x) := fun h i hi => by
          by_cases e : i = t
          · subst e; exact h
          · exact HT.out i (by omega)
        generalize L.getD t 0 = z at hct HMM HT2
        clear HT
        by_cases hz : z = x
        · have HB := Hid.mk (HNO2.out (fun h => (HNB.out.1 (HNT.out _ h)).2 (by rw [← hz]; exact HMM.out)))
          clear HMM HT2
          subst hz
          go_wp2
          go_ret
          exact ⟨by rw [HB.out]; rfl, BN.out⟩
        · have HT3 := Hid.mk (HT2.out hz)
          clear HMM HT2
          go_wp2
          go_round
          case rel => exact ⟨t + 1, by omega, by go_num, HT3⟩
          case measure => simp [intOf]; omega
end Go.Proofs.Ytfhpjcojccfcoaa
