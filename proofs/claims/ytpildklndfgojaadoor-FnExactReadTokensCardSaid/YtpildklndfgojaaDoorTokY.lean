/- The model's l3Sign. -/
import Derived.Test.YtpildklndfgojaaDoorTokX
import Derived.Deep.RegionHeld3
import Derived.BigQuiet
namespace Go.Proofs.YtpildklndfgojaaDoor.Tk
open Go.ChangeShapes Go.WideShapes Go.ChangeAt Go.RowKit
set_option linter.unusedVariables false
theorem wr64 (x : Int) (h0 : -9223372036854775808 ≤ x) (h1 : x ≤ 9223372036854775807) : IntKind.i64.wrap x = x := by
  simp [IntKind.wrap, IntKind.bits, IntKind.signed]; omega
set_option maxHeartbeats 2000000 in
set_option maxRecDepth 100000 in
theorem sign59 (s : ByteArray) (i : Nat) (w : World) (hs : s.size ≤ 1048576) (hi : i ≤ s.size) : Calls Tryd.prog 59 #[.string s, .int .i64 i] w fun e w' => e = .returned (.string (s.extract i (i + signN s i))) ∧ Below w.heap.size w w' := by
  obtain ⟨N, hN⟩ : ∃ N, signN s i = N := ⟨_, rfl⟩
  rw [hN]
  have HN : Hid (signN s i = N) := hN
  clear hN
  have hs' : (s.size : Int) ≤ 1048576 := by omega
  have i0 : (0 : Int) ≤ (i : Int) := by omega
  have i1 : (i : Int) ≤ (s.size : Int) := by omega
  go_enter Tryd.func59, Tryd.ntmps59
  go_wp2
  go_loopw [5] (fun v wr => ∃ m : Nat, m ≤ 2 ∧ v = .int .i64 m ∧ Hid (∀ q, m < q → q ≤ 2 → ¬ (i + q ≤ s.size ∧ isIn (textAt signsL) (s.extract i (i + q)) 30 = true)) ∧ Below w.heap.size w wr) (fun v _ => (intOf v).toNat)
  case atStart => exact ⟨2, by omega, rfl, (fun q h1 h2 => by omega), Below.refl _ _⟩
  case round =>
    obtain ⟨m, hm, rfl, HQ, B⟩ := hrel
    by_cases m0 : 1 ≤ m
    · have m1 : (1 : Int) ≤ (m : Int) := by omega
      have m2 : (m : Int) ≤ 2 := by omega
      by_cases c : i + m ≤ s.size
      · have c' : (i : Int) + (m : Int) ≤ (s.size : Int) := by omega
        have c0 : (0 : Int) ≤ (i : Int) + (m : Int) := by omega
        have hw : IntKind.i64.wrap ((i : Int) + (m : Int)) = (i : Int) + (m : Int) := wr64 _ (by omega) (by omega)
        have c1 : (i : Int) ≤ (i : Int) + (m : Int) := by omega
        obtain ⟨y, hy⟩ : ∃ y, s.extract i (i + m) = y := ⟨_, rfl⟩
        obtain ⟨I, hI⟩ : ∃ I, isIn (textAt signsL) y 30 = I := ⟨_, rfl⟩
        have HL : Hid (∀ wx : World, wx.heap.size = wr.heap.size → Below w.heap.size w wx → Calls Tryd.prog 100 #[] wx fun r w' => r = .returned (.slice (some ⟨wr.heap.size, 0, none⟩) 30 30) ∧ Hid (∀ i, i < 30 → w'.cell? ⟨wr.heap.size, i, none⟩ = some (.string (textAt signsL i))) ∧ Below w.heap.size w w') := fun wx hz hb => by
          refine (lit11 wx).mono ?_
          rintro e w' ⟨he, S, Bx⟩
          rw [hz] at he S
          exact ⟨he, S.cell, step_b hb Bx⟩
        have HIN : Hid (∀ (w1 : World), (∀ i, i < 30 → w1.cell? ⟨wr.heap.size, i, none⟩ = some (.string (textAt signsL i))) → Calls Tryd.prog 60 #[.slice (some ⟨wr.heap.size, 0, none⟩) 30 30, .string y] w1 fun r w' => r = .returned (.bool I) ∧ w' = w1) := fun w1 q => by
          rw [← hI]; exact in17 30 _ 30 (textAt signsL) y w1 (by omega) q
        have HY : Hid (s.extract i (i + m) = y) := hy
        have HI : Hid (isIn (textAt signsL) y 30 = I) := hI
        have tn : ((i : Int) + (m : Int)).toNat = i + m := by omega
        clear hy hI
        cases I
        · go_wp2
          go_region_held3 (fun _ => True) (trivial) (first | (go_at_call 100; refine ((Hid.out HL) _ (by first | rfl | simp) (by first | exact B | exact below_drewN B _)).mono ?_; rintro e w1 ⟨rfl, S1, B1⟩) | (go_at_call 60; (try rw [tn]); rw [HY.out]; refine ((Hid.out HIN) _ (Hid.out S1)).mono ?_; rintro e w' ⟨rfl, hw⟩; subst w'))
          all_goals
            go_wp2
            refine ⟨⟨m - 1, by omega, congrArg (Value.int IntKind.i64) (by omega), (fun q h1 h2 => ?_), B1⟩, by simp [intOf]; omega⟩
            by_cases e : q = m
            · subst e
              rw [HY.out, HI.out]
              simp
            · exact HQ.out q (by omega) h2
        · have HE : Hid (N = m) := by
            show N = m
            rw [← HN.out]
            have z : isIn (textAt signsL) (s.extract i (i + m)) 30 = true := by rw [HY.out]; exact HI.out
            rcases (by omega : m = 1 ∨ m = 2) with rfl | rfl
            · unfold signN; rw [if_neg (HQ.out 2 (by omega) (by omega)), if_pos ⟨c, z⟩]
            · unfold signN; rw [if_pos ⟨c, z⟩]
          go_wp2
          go_region_held3 (fun _ => True) (trivial) (first | (go_at_call 100; refine ((Hid.out HL) _ (by first | rfl | simp) (by first | exact B | exact below_drewN B _)).mono ?_; rintro e w1 ⟨rfl, S1, B1⟩) | (go_at_call 60; (try rw [tn]); rw [HY.out]; refine ((Hid.out HIN) _ (Hid.out S1)).mono ?_; rintro e w' ⟨rfl, hw⟩; subst w'))
          all_goals
            go_wp2
            go_ret
            exact ⟨by rw [HE.out, HY.out]; rfl, B1⟩
      · have c' : ¬ (i : Int) + (m : Int) ≤ (s.size : Int) := by omega
        have hw : IntKind.i64.wrap ((i : Int) + (m : Int)) = (i : Int) + (m : Int) := wr64 _ (by omega) (by omega)
        have HC : Hid (¬ i + m ≤ s.size) := c
        clear c
        go_wp2
        have c2 : decide ((i : Int) + (m : Int) ≤ (s.size : Int)) = false := decide_eq_false (by have := HC.out; omega)
        go_quiet (fail)
        all_goals
          go_wp2
          refine ⟨⟨m - 1, by omega, congrArg (Value.int IntKind.i64) (by omega), (fun q h1 h2 => ?_), (by first | exact B | exact below_drewN B _)⟩, by simp [intOf]; omega⟩
          by_cases e : q = m
          · subst e
            exact fun z => HC.out z.1
          · exact HQ.out q (by omega) h2
    · obtain rfl : m = 0 := by omega
      have HE : Hid (s.extract i (i + N) = ⟨#[]⟩) := by
        show s.extract i (i + N) = ⟨#[]⟩
        have z : N = 0 := by rw [← HN.out]; unfold signN; rw [if_neg (HQ.out 2 (by omega) (by omega)), if_neg (HQ.out 1 (by omega) (by omega))]
        rw [z]
        exact ext_none s i
      rw [show ((0 : Nat) : Int) = 0 from rfl]
      go_wp2
      go_ret
      exact ⟨by rw [HE.out]; rfl, B⟩
end Go.Proofs.YtpildklndfgojaaDoor.Tk
