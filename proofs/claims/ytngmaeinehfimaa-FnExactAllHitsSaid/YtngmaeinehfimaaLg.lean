/- What a ray meets: the program, to the end. -/
import Derived.Test.YtngmaeinehfimaaLf
namespace Go.Proofs.Ytngmaeinehfimaa
open Go.ChangeShapes Go.WideShapes Go.ChangeAt Go.RowKit
set_option linter.unusedVariables false
set_option maxRecDepth 100000 in
set_option maxHeartbeats 4000000 in
theorem preduced (n d : Int) (w : World) (hn : 0 ≤ n ∧ n ≤ 2000) (hd : 0 < d ∧ d ≤ 1000) : Calls Try.prog 85 #[.agg #[.int .i64 n, .int .i64 d]] w fun e w' => e = .returned (.agg #[.int .i64 (rdN n d), .int .i64 (rdD n d)]) ∧ Below w.heap.size w w' := by
  obtain ⟨V, hV⟩ : ∃ V, ((w.alloc (.cells #[.int .i64 n, .int .i64 d] 85)).alloc (.cells #[.int .i64 0, .int .i64 0] 85)) = V := ⟨_, rfl⟩
  have BV : Below w.heap.size w V := by rw [← hV]; exact (alloc_b).trans ((alloc_b).mono (by simp))
  have X0 : C2 V (w.heap.size) (.int .i64 n) (.int .i64 d) := by
    have h := (C2.new w 85 (.int .i64 n) (.int .i64 d)).next (alloc_b (o := .cells #[.int .i64 0, .int .i64 0] 85))
    rw [hV] at h
    exact h
  have X1 : C2 V (w.heap.size + 1) (.int .i64 0) (.int .i64 0) := by
    have h := C2.new (w.alloc (.cells #[.int .i64 n, .int .i64 d] 85)) 85 (.int .i64 0) (.int .i64 0)
    rw [hV] at h
    simpa only [World.size_alloc] using h
  have HVE := Hid.mk hV
  clear hV
  have HBV := Hid.mk BV
  have HX : Hid (∀ v, Below V.heap.size V v → C2 v w.heap.size (.int .i64 n) (.int .i64 d) ∧ C2 v (w.heap.size + 1) (.int .i64 0) (.int .i64 0)) := fun v b => ⟨X0.next b, X1.next b⟩
  have x00 := X0.c0
  have x01 := X0.c1
  have HN : Hid ((Int.gcd n d : Int).natAbs = Int.gcd n d ∧ n.tdiv (Int.gcd n d) = rdN n d ∧ d.tdiv (Int.gcd n d) = rdD n d ∧ 0 < (Int.gcd n d : Int) ∧ (0 ≤ rdN n d ∧ rdN n d ≤ 2000) ∧ 0 < rdD n d ∧ rdD n d ≤ 1000) := by
    have g := gcd_pos (n := n) hd.1
    have b := rdN_bnd (n := n) (B := 2000) hd.1 (by omega)
    have b2 := rdD_le (n := n) hd.1
    have b3 := rdD_pos (n := n) hd.1
    have b4 := rdN_nn (n := n) (d := d) hn.1
    exact ⟨by omega, Int.tdiv_eq_ediv_of_nonneg hn.1, Int.tdiv_eq_ediv_of_nonneg (by omega), g, by omega, b3, by omega⟩
  have HD : Hid (∀ a : Int, 0 ≤ a → Int.gcd a 0 = Int.gcd n d → a = (Int.gcd n d : Int)) := fun a a0 h => by rw [Int.gcd_zero_right] at h; omega
  have HS : Hid (Int.gcd d n = Int.gcd n d) := Int.gcd_comm d n
  have h0 := hn.1
  have h1 := hn.2
  have h2 := hd.1
  have h3 := hd.2
  clear BV X0 X1 hn hd
  go_enter Try.func85, Try.ntmps85
  go_upto_region 1 with fail
  rw [HVE.out]
  clear HVE
  go_quiet (fail)
  go_wp2
  go_loopw [3, 4] (fun x y wx => ∃ a b : Int, x = .int .i64 a ∧ y = .int .i64 b ∧ 0 ≤ a ∧ a ≤ 2000 ∧ 0 ≤ b ∧ b ≤ 2000 ∧ Hid (Int.gcd a b = Int.gcd n d) ∧ Hid (Below V.heap.size V wx)) (fun _ y _ => (intOf y).toNat)
  case atStart => exact ⟨d, n, rfl, rfl, by omega, by omega, by omega, by omega, HS.out, below_drewN (Below.refl _ _) _⟩
  case round =>
    obtain ⟨a, b, rfl, rfl, a0, a1, b0, b1, HG, HB⟩ := hrel
    by_cases hb : b = 0
    · subst hb
      have ha := HD.out a a0 HG.out
      obtain ⟨_, t1, t2, g0, r0, r1, r2⟩ := HN.out
      rw [← ha] at t1 t2 g0
      obtain ⟨N, hN⟩ : ∃ x, rdN n d = x := ⟨_, rfl⟩
      obtain ⟨D, hDD⟩ : ∃ x, rdD n d = x := ⟨_, rfl⟩
      rw [hN] at t1 r0
      rw [hDD] at t2 r1 r2
      have HND : Hid (rdN n d = N ∧ rdD n d = D) := ⟨hN, hDD⟩
      clear hN hDD
      have w1 : IntKind.i64.wrap N = N := (IntKind.wrap_i64 _).trans (by omega)
      have w2 : IntKind.i64.wrap D = D := (IntKind.wrap_i64 _).trans (by omega)
      have nz : ¬ a = 0 := by omega
      clear HG HN HD HS ha a1 b0 b1
      obtain ⟨X0, X1⟩ := HX.out _ HB.out
      have x00 := X0.c0
      have x01 := X0.c1
      have x10 := X1.c0
      have x11 := X1.c1
      have x1f := X1.f
      have YD := (X1.s0 (.int .i64 N)).s1 (.int .i64 D)
      have BD : Below w.heap.size w wr := HBV.out.trans (HB.out.mono HBV.out.size)
      have BE := Hid.mk ((BD.setCell (p := ⟨w.heap.size + 1, 0, none⟩) (by simp) (.int .i64 N)).setCell (p := ⟨w.heap.size + 1, 1, none⟩) (by simp) (.int .i64 D))
      have y0 := YD.c0
      have y1 := YD.c1
      clear X0 X1 YD BD
      go_wp2
      go_region
      go_wp2
      exact bodyPost_ret (v := .agg #[.int .i64 N, .int .i64 D]) (by simp [results, Try.results85, go_sem, y0, y1]) rfl ⟨by rw [HND.out.1, HND.out.2], below_drew BE.out⟩
    · have hb2 : 0 < b := by omega
      have hm := Int.emod_nonneg a hb
      have hm2 := Int.emod_lt_of_pos a hb2
      have HG2 : Hid (Int.gcd b (a % b) = Int.gcd n d) := by show _ = _; rw [gcd_step a0 hb2]; exact HG.out
      have dr : a.tmod b = a % b := Int.tmod_eq_emod_of_nonneg a0
      generalize a % b = r at hm hm2 HG2 dr
      have wr1 : IntKind.i64.wrap r = r := (IntKind.wrap_i64 _).trans (by omega)
      have hbe : (b == 0) = false := by simp; exact hb
      clear HG
      go_wp2
      go_quiet (fail)
      go_wp2
      go_roundw
      case rel => exact ⟨b, r, rfl, rfl, by omega, by omega, by omega, by omega, HG2, below_drewN HB.out _⟩
      case measure => simp [intOf]; omega
end Go.Proofs.Ytngmaeinehfimaa
