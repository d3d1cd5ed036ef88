/- goodSet, GoodCache and NewCache of the program. -/
import Derived.Test.YtfhpjcojccfcoaaGn
import Derived.BigQuiet
namespace Go.Proofs.Ytfhpjcojccfcoaa
open Go.ChangeShapes Go.WideShapes Go.ChangeAt Go.RowKit
set_option linter.unusedVariables false
set_option maxRecDepth 100000 in
theorem pclos (x s : Int) (k cb sb : Nat) (w : World) (hs : 1 ≤ s) (h0 : w.cell? ⟨cb, 0, none⟩ = some (.int .i64 s)) (h1 : w.cell? ⟨sb, 0, none⟩ = some (.int .i64 (k : Int))) (hs2 : s ≤ 64) : Calls Try.prog 77 #[.int .i64 x, .pointer (some ⟨cb, 0, none⟩), .pointer (some ⟨sb, 0, none⟩)] w fun e w' => e = .returned (.bool (!inS s k x)) ∧ Below w.heap.size w w' := by
  have HIN : Hid (inS s k x = ((decide (0 ≤ x) && decide (x ≤ 1000000)) && (x % s == (k : Int)))) := rfl
  generalize inS s k x = B at HIN ⊢
  by_cases x0 : 0 ≤ x
  case neg =>
    have x1 : x < 0 := by omega
    have d1 : decide (x < 0) = true := decide_eq_true x1
    have HB : Hid (B = false) := by show _ = _; rw [HIN.out, decide_eq_false x0]; rfl
    clear x0
    go_enter Try.func77, Try.ntmps77
    go_wp2
    go_quiet (fail)
    go_wp2
    go_ret
    exact ⟨by rw [HB.out]; rfl, below_drewN (Below.refl _ _) _⟩
  have x1 : ¬ x < 0 := by omega
  have d1 : decide (x < 0) = false := decide_eq_false x1
  by_cases x2 : x ≤ 1000000
  case neg =>
    have x3 : 1000000 < x := by omega
    have d2 : decide (1000000 < x) = true := decide_eq_true x3
    have HB : Hid (B = false) := by show _ = _; rw [HIN.out, decide_eq_false x2, Bool.and_false]; rfl
    clear x2
    go_enter Try.func77, Try.ntmps77
    go_wp2
    go_quiet (fail)
    go_wp2
    go_ret
    exact ⟨by rw [HB.out]; rfl, below_drewN (Below.refl _ _) _⟩
  have x3 : ¬ 1000000 < x := by omega
  have d2 : decide (1000000 < x) = false := decide_eq_false x3
  have s0 : ¬ s = 0 := by omega
  have hm := tmod_small (s := s) x0
  have HB : Hid (B = (x % s == (k : Int))) := by show _ = _; rw [HIN.out, decide_eq_true x0, decide_eq_true x2]; rfl
  have r0 := Int.emod_nonneg x s0
  have r1 := Int.emod_lt_of_pos x (show 0 < s by omega)
  generalize x % s = r at hm HB r0 r1
  go_enter Try.func77, Try.ntmps77
  go_wp2
  go_quiet (fail)
  go_wp2
  go_ret
  exact ⟨by rw [HB.out]; rfl, below_drewN (Below.refl _ _) _⟩
set_option maxRecDepth 100000 in
set_option maxHeartbeats 1000000 in
theorem pgset (s y l p : Int) (v : Value) (c : Int) (n : Nat) (f : Nat → List Int) (k : Nat) (w : World) (R : ARows w v n f) (hk : k < n) (hs : 1 ≤ s) (hs2 : s ≤ 64) (hy2 : y ≤ 8) (hfl : (f k).length ≤ 1048576) (hn : n ≤ 64) : Calls Try.prog 62 #[.agg #[.int .i64 s, .int .i64 y, .int .i64 l, .int .i64 p, v, .int .i64 c], .int .i64 (k : Int)] w fun e w' => e = .returned (.bool (setB s y k (f k))) ∧ Below w.heap.size w w' := by
  obtain ⟨W, hW⟩ : ∃ W, W = (w.alloc (.cells #[.int .i64 s, .int .i64 y, .int .i64 l, .int .i64 p, v, .int .i64 c] 42)).alloc (.cells #[.int .i64 (k : Int)] 3) := ⟨_, rfl⟩
  have BW : Below w.heap.size w W := by rw [hW]; exact ((Below.refl _ _).alloc (Nat.le_refl _) _).alloc (Nat.le_of_lt (by simp)) _
  have CW : C6 W w.heap.size (.int .i64 s) (.int .i64 y) (.int .i64 l) (.int .i64 p) v (.int .i64 c) := by rw [hW]; exact (C6.new _ _ _ _ _ _ _ _).next alloc_b
  have KW : W.cell? ⟨w.heap.size + 1, 0, none⟩ = some (.int .i64 (k : Int)) := by rw [hW]; simp
  have RW := R.next BW
  obtain ⟨ad, cp, rfl, hR⟩ := RW
  obtain ⟨q, o, u, rfl, hc, hrow⟩ := hR k hk
  have HQ := Hid.mk hrow
  have i1 : (k : Int) < (n : Int) := by omega
  have i0 : (0 : Int) ≤ (k : Int) := by omega
  have HSB : Hid (setB s y k (f k) = (decide (((f k).length : Int) ≤ y) && ((f k).all (inS s k) && decide (f k).Nodup))) := rfl
  generalize setB s y k (f k) = SB at HSB ⊢
  generalize f k = L at hc HQ HSB hfl hrow
  obtain ⟨ra, rc, rfl, _⟩ := hrow
  have q0 := CW.c0
  have q1 := CW.c1
  have q4 := CW.c4
  have HBW : Hid (∀ w', Below W.heap.size W w' → Below w.heap.size w w') := fun w' b => BW.trans (b.mono BW.size)
  have HCW : Hid (∀ w', Below W.heap.size W w' → w'.cell? ⟨w.heap.size, 0, none⟩ = some (.int .i64 s) ∧ w'.cell? ⟨w.heap.size + 1, 0, none⟩ = some (.int .i64 (k : Int))) := fun w' b => ⟨cell_nx q0 b, cell_nx KW b⟩
  by_cases g1 : (L.length : Int) ≤ y
  case neg =>
    have g2 : y < (L.length : Int) := by omega
    have HB : Hid (SB = false) := by show _ = _; rw [HSB.out, decide_eq_false g1]; rfl
    clear g1 HSB HCW CW R hR BW
    subst hW
    go_enter Try.func62, Try.ntmps62
    go_wp2
    go_ret
    exact ⟨by rw [HB.out]; rfl, HBW.out _ (Below.refl _ _)⟩
  have g2 : ¬ y < (L.length : Int) := by omega
  have HSB : Hid (SB = (L.all (inS s k) && decide L.Nodup)) := by show _ = _; rw [HSB.out, decide_eq_true g1]; rfl
  have H44 : Hid (∀ w', Below W.heap.size W w' → Calls Try.prog 44 #[.slice ra L.length rc, .slice none 0 0] w' fun e w'' => ∃ z, e = .returned z ∧ IOwn w'.heap.size w'' z (srt L) ∧ Below w'.heap.size w' w'') := fun w' b => by
    have := union46 (.slice ra L.length rc) (.slice none 0 0) L [] w' (by simp; omega) (HQ.out.next b) (ARow.none _ _ _ rfl)
    rwa [List.append_nil] at this
  have H50 : Hid (∀ w', Below W.heap.size W w' → Calls Try.prog 50 #[.slice ra L.length rc, .func (.func 77) #[] #[.pointer (some ⟨w.heap.size, 0, none⟩), .pointer (some ⟨w.heap.size + 1, 0, none⟩)]] w' fun e w'' => e = .returned (.bool (!L.all (inS s k))) ∧ Below w'.heap.size w' w'') := fun w' b => by
    have h := gdsc L (.slice ra L.length rc) w.heap.size (w.heap.size + 1) (fun x => !inS s k x) w' (HQ.out.next b) hfl (fun x _ w'' b2 => by
      obtain ⟨a1, a2⟩ := HCW.out _ (b.trans (b2.mono b.size))
      exact pclos x s k _ _ w'' hs a1 a2 hs2)
    have e : (L.any fun x => !inS s k x) = !L.all (inS s k) := by simp [List.any_eq_not_all_not]
    rwa [e] at h
  have HN := srt_nodup_iff L
  clear CW R hR BW HQ HCW g1
  by_cases hnd : L.Nodup
  case neg =>
    have hl : ¬ ((srt L).length : Int) = (L.length : Int) := fun h => hnd (HN.1 (by omega))
    have HB : Hid (SB = false) := by show _ = _; rw [HSB.out, decide_eq_false hnd, Bool.and_false]
    clear HSB HN hnd H50
    generalize srt L = S at H44 hl
    subst hW
    go_enter Try.func62, Try.ntmps62
    go_wp2_with (go_at_call 44; refine (H44.out _ (Below.refl _ _)).mono ?_; rintro e w2 ⟨z2, rfl, I2, B2⟩; (obtain ⟨a2, c2, rfl, hc2⟩ := I2.arow))
    go_ret
    exact ⟨by rw [HB.out]; rfl, HBW.out _ B2⟩
  have hl : ((srt L).length : Int) = (L.length : Int) := by rw [HN.2 hnd]
  have HB : Hid (SB = L.all (inS s k)) := by show _ = _; rw [HSB.out, decide_eq_true hnd, Bool.and_true]
  clear HSB HN hnd
  generalize L.all (inS s k) = AB at H50 HB
  have HHL := Hid.mk hl
  generalize srt L = S at H44 hl HHL
  clear hl
  subst hW
  go_enter Try.func62, Try.ntmps62
  go_wp2_with (first | (go_at_call 44; refine (H44.out _ (Below.refl _ _)).mono ?_; rintro e w2 ⟨z2, rfl, I2, B2⟩; (obtain ⟨a2, c2, rfl, hc2⟩ := I2.arow); (have hl := HHL.out)) | (go_at_call 50; refine (H50.out w2 B2).mono ?_; rintro e w3 ⟨rfl, B3⟩))
  go_ret
  exact ⟨by rw [HB.out]; simp, HBW.out _ (B2.trans (B3.mono B2.size))⟩
end Go.Proofs.Ytfhpjcojccfcoaa
