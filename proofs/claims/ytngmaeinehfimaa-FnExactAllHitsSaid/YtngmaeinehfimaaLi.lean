/- Fractions of the model. -/
import Derived.Test.YtngmaeinehfimaaLh
namespace Go.Proofs.Ytngmaeinehfimaa
open Go.ChangeShapes Go.WideShapes Go.ChangeAt Go.RowKit
set_option linter.unusedVariables false
set_option maxHeartbeats 2000000 in
theorem mgcd (a b : Int) (w : World) (ha : -3000 ≤ a ∧ a ≤ 3000) (hb : 0 ≤ b ∧ b ≤ 3000) : Calls Try.prog 102 #[.int .i64 a, .int .i64 b] w fun e w' => e = .returned (.int .i64 (Int.gcd a b)) ∧ w' = w := by
  have key : ∀ x : Int, 0 ≤ x → x ≤ 3000 → Int.gcd x b = Int.gcd a b → ∀ (tm : x = a ∨ x = -a), True := fun _ _ _ _ _ => trivial
  clear key
  obtain ⟨g, hg⟩ : ∃ g, Int.gcd a b = g := ⟨_, rfl⟩
  have HG := Hid.mk hg
  have HN : Hid (Int.gcd (-a) b = g) := by show _ = _; rw [Int.neg_gcd]; exact hg
  rw [hg]
  have HD : Hid (∀ a : Int, 0 ≤ a → Int.gcd a 0 = g → (g : Int) = a) := fun a a0 h => by rw [Int.gcd_zero_right] at h; omega
  clear hg
  by_cases h0 : a < 0
  case pos =>
    obtain ⟨c, hc⟩ : ∃ c, -a = c := ⟨_, rfl⟩
    have w0 : IntKind.i64.wrap (-a) = c := by rw [hc]; exact (IntKind.wrap_i64 _).trans (by omega)
    rw [hc] at HN
    have c0 : 0 ≤ c ∧ c ≤ 3000 := by omega
    clear hc HG
    go_enter Try.func102, Try.ntmps102
    go_wp2
    go_loopw [0, 1] (fun x y wx => ∃ a b : Int, x = .int .i64 a ∧ y = .int .i64 b ∧ 0 ≤ a ∧ a ≤ 3000 ∧ 0 ≤ b ∧ b ≤ 3000 ∧ Hid (Int.gcd a b = g) ∧ wx = w) (fun _ y _ => (intOf y).toNat)
    case atStart => exact ⟨c, b, rfl, rfl, by omega, by omega, by omega, by omega, HN.out, rfl⟩
    case round =>
      obtain ⟨a, b, rfl, rfl, a0, a1, b0, b1, HG, rfl⟩ := hrel
      by_cases hb : b = 0
      · subst hb
        have he := HD.out a a0 HG.out
        clear HG HN HD
        go_wp2
        go_ret
        exact ⟨by rw [he]; rfl, rfl⟩
      · have hb2 : 0 < b := by omega
        have hm := Int.emod_nonneg a hb
        have hm2 := Int.emod_lt_of_pos a hb2
        have HG2 : Hid (Int.gcd b (a % b) = g) := by show _ = _; rw [gcd_step a0 hb2]; exact HG.out
        have dr : a.tmod b = a % b := Int.tmod_eq_emod_of_nonneg a0
        generalize a % b = r at hm hm2 HG2 dr
        have wr1 : IntKind.i64.wrap r = r := (IntKind.wrap_i64 _).trans (by omega)
        have hbe : (b == 0) = false := by simp; exact hb
        clear HG HN HD
        go_wp2
        go_roundw
        case rel => exact ⟨b, r, rfl, rfl, by omega, by omega, by omega, by omega, HG2, by first | rfl | trivial⟩
        case measure => simp [intOf]; omega
  case neg =>
    have HN := HG
    obtain ⟨c, hc⟩ : ∃ c, a = c := ⟨_, rfl⟩
    rw [hc] at HN h0 ⊢
    have c0 : 0 ≤ c ∧ c ≤ 3000 := by omega
    clear hc HG ha
    go_enter Try.func102, Try.ntmps102
    go_wp2
    go_loopw [0, 1] (fun x y wx => ∃ a b : Int, x = .int .i64 a ∧ y = .int .i64 b ∧ 0 ≤ a ∧ a ≤ 3000 ∧ 0 ≤ b ∧ b ≤ 3000 ∧ Hid (Int.gcd a b = g) ∧ wx = w) (fun _ y _ => (intOf y).toNat)
    case atStart => exact ⟨c, b, rfl, rfl, by omega, by omega, by omega, by omega, HN.out, rfl⟩
    case round =>
      obtain ⟨a, b, rfl, rfl, a0, a1, b0, b1, HG, rfl⟩ := hrel
      by_cases hb : b = 0
      · subst hb
        have he := HD.out a a0 HG.out
        clear HG HN HD
        go_wp2
        go_ret
        exact ⟨by rw [he]; rfl, rfl⟩
      · have hb2 : 0 < b := by omega
        have hm := Int.emod_nonneg a hb
        have hm2 := Int.emod_lt_of_pos a hb2
        have HG2 : Hid (Int.gcd b (a % b) = g) := by show _ = _; rw [gcd_step a0 hb2]; exact HG.out
        have dr : a.tmod b = a % b := Int.tmod_eq_emod_of_nonneg a0
        generalize a % b = r at hm hm2 HG2 dr
        have wr1 : IntKind.i64.wrap r = r := (IntKind.wrap_i64 _).trans (by omega)
        have hbe : (b == 0) = false := by simp; exact hb
        clear HG HN HD
        go_wp2
        go_roundw
        case rel => exact ⟨b, r, rfl, rfl, by omega, by omega, by omega, by omega, HG2, by first | rfl | trivial⟩
        case measure => simp [intOf]; omega
set_option maxRecDepth 100000 in
set_option maxHeartbeats 4000000 in
theorem mover_pos (n d : Int) (w : World) (hn : -2000 ≤ n ∧ n ≤ 2000) (hd : 0 < d ∧ d ≤ 1000) : Calls Try.prog 80 #[.int .i64 n, .int .i64 d] w fun e w' => e = .returned (.agg #[.int .i64 (rdN n d), .int .i64 (rdD n d)]) ∧ Below w.heap.size w w' := by
  have e0 : ¬ d < 0 := by omega
  have HG := Hid.mk (fun w' : World => mgcd n d w' (by omega) (by omega))
  have g0 := gcd_pos (n := n) hd.1
  have g1 : (Int.gcd n d : Int) ≤ 1000 := by
    have h1 := Int.gcd_dvd_right n d
    have := Int.le_of_dvd hd.1 h1
    omega
  have t1 : (n).tdiv (Int.gcd n d) = rdN n d := Int.tdiv_eq_ediv_of_dvd (Int.gcd_dvd_left n d)
  have t2 : d.tdiv (Int.gcd n d) = rdD n d := Int.tdiv_eq_ediv_of_dvd (Int.gcd_dvd_right n d)
  have b1 := rdN_bnd (n := n) (B := 2000) hd.1 (by omega)
  have b2 := rdD_le (n := n) hd.1
  have b3 := rdD_pos (n := n) hd.1
  generalize rdN n d = N at t1 b1 ⊢
  generalize rdD n d = D at t2 b2 b3 ⊢
  generalize (Int.gcd n d : Int) = g at HG g0 g1 t1 t2
  have w1 : IntKind.i64.wrap N = N := (IntKind.wrap_i64 _).trans (by omega)
  have w2 : IntKind.i64.wrap D = D := (IntKind.wrap_i64 _).trans (by omega)
  have nz : ¬ g = 0 := by omega
  obtain ⟨V, hV⟩ : ∃ V, (w.alloc (.cells #[.int .i64 0, .int .i64 0] 81)) = V := ⟨_, rfl⟩
  have BV : Below w.heap.size w V := by rw [← hV]; exact alloc_b
  have X0 : C2 V (w.heap.size) (.int .i64 0) (.int .i64 0) := by
    have h := C2.new w 81 (.int .i64 0) (.int .i64 0)
    rw [hV] at h
    exact h
  have HVE := Hid.mk hV
  clear hV
  clear hn hd b1 b2 b3 g1
  have x0 := X0.c0
  have x1 := X0.c1
  have xf := X0.f
  have YD := (X0.s0 (.int .i64 N)).s1 (.int .i64 D)
  have BE := Hid.mk ((BV.setCell (p := ⟨w.heap.size, 0, none⟩) (Nat.le_refl _) (.int .i64 N)).setCell (p := ⟨w.heap.size, 1, none⟩) (Nat.le_refl _) (.int .i64 D))
  have y0 := YD.c0
  have y1 := YD.c1
  clear X0 YD BV
  go_enter Try.func80, Try.ntmps80
  go_upto_region 1 with fail
  rw [HVE.out]
  clear HVE
  go_wp2_with (go_at_call 102; refine (HG.out _).mono ?_; rintro e w9 ⟨rfl, hw⟩; subst w9)
  go_region
  go_wp2
  exact bodyPost_ret (v := .agg #[.int .i64 N, .int .i64 D]) (by simp [results, Try.results80, go_sem, y0, y1]) rfl ⟨rfl, below_drew BE.out⟩
set_option maxRecDepth 100000 in
set_option maxHeartbeats 4000000 in
theorem mover_neg (n x : Int) (w : World) (hn : -2000 ≤ n ∧ n ≤ 2000) (hx : -1000 ≤ x ∧ x < 0) : Calls Try.prog 80 #[.int .i64 n, .int .i64 x] w fun e w' => e = .returned (.agg #[.int .i64 (rdN (-n) (-x)), .int .i64 (rdD (-n) (-x))]) ∧ Below w.heap.size w w' := by
  obtain ⟨m, hm⟩ : ∃ m, -n = m := ⟨_, rfl⟩
  obtain ⟨d, hdx⟩ : ∃ d, -x = d := ⟨_, rfl⟩
  have w3 : IntKind.i64.wrap (-n) = m := by rw [hm]; exact (IntKind.wrap_i64 _).trans (by omega)
  have w4 : IntKind.i64.wrap (-x) = d := by rw [hdx]; exact (IntKind.wrap_i64 _).trans (by omega)
  have hn : -2000 ≤ m ∧ m ≤ 2000 := by omega
  have hd : 0 < d ∧ d ≤ 1000 := by omega
  have e0 : x < 0 := hx.2
  rw [hm, hdx]
  clear hm hdx hx
  have HG := Hid.mk (fun w' : World => mgcd m d w' (by omega) (by omega))
  have g0 := gcd_pos (n := m) hd.1
  have g1 : (Int.gcd m d : Int) ≤ 1000 := by
    have h1 := Int.gcd_dvd_right m d
    have := Int.le_of_dvd hd.1 h1
    omega
  have t1 : (m).tdiv (Int.gcd m d) = rdN m d := Int.tdiv_eq_ediv_of_dvd (Int.gcd_dvd_left m d)
  have t2 : d.tdiv (Int.gcd m d) = rdD m d := Int.tdiv_eq_ediv_of_dvd (Int.gcd_dvd_right m d)
  have b1 := rdN_bnd (n := m) (B := 2000) hd.1 (by omega)
  have b2 := rdD_le (n := m) hd.1
  have b3 := rdD_pos (n := m) hd.1
  generalize rdN m d = N at t1 b1 ⊢
  generalize rdD m d = D at t2 b2 b3 ⊢
  generalize (Int.gcd m d : Int) = g at HG g0 g1 t1 t2
  have w1 : IntKind.i64.wrap N = N := (IntKind.wrap_i64 _).trans (by omega)
  have w2 : IntKind.i64.wrap D = D := (IntKind.wrap_i64 _).trans (by omega)
  have nz : ¬ g = 0 := by omega
  obtain ⟨V, hV⟩ : ∃ V, (w.alloc (.cells #[.int .i64 0, .int .i64 0] 81)) = V := ⟨_, rfl⟩
  have BV : Below w.heap.size w V := by rw [← hV]; exact alloc_b
  have X0 : C2 V (w.heap.size) (.int .i64 0) (.int .i64 0) := by
    have h := C2.new w 81 (.int .i64 0) (.int .i64 0)
    rw [hV] at h
    exact h
  have HVE := Hid.mk hV
  clear hV
  clear hn hd b1 b2 b3 g1
  have x0 := X0.c0
  have x1 := X0.c1
  have xf := X0.f
  have YD := (X0.s0 (.int .i64 N)).s1 (.int .i64 D)
  have BE := Hid.mk ((BV.setCell (p := ⟨w.heap.size, 0, none⟩) (Nat.le_refl _) (.int .i64 N)).setCell (p := ⟨w.heap.size, 1, none⟩) (Nat.le_refl _) (.int .i64 D))
  have y0 := YD.c0
  have y1 := YD.c1
  clear X0 YD BV
  go_enter Try.func80, Try.ntmps80
  go_upto_region 1 with fail
  rw [HVE.out]
  clear HVE
  go_wp2_with (go_at_call 102; refine (HG.out _).mono ?_; rintro e w9 ⟨rfl, hw⟩; subst w9)
  go_region
  go_wp2
  exact bodyPost_ret (v := .agg #[.int .i64 N, .int .i64 D]) (by simp [results, Try.results80, go_sem, y0, y1]) rfl ⟨rfl, below_drew BE.out⟩
set_option maxHeartbeats 2000000 in
theorem mless (n d m e : Int) (w : World) (h : MB n d) (k : MB m e) : Calls Try.prog 81 #[.agg #[.int .i64 n, .int .i64 d], .agg #[.int .i64 m, .int .i64 e]] w fun r w' => r = .returned (.bool (decide (n * e < m * d))) ∧ Below w.heap.size w w' := by
  have b1 := mb_mul h k
  have b2 := mb_mul k h
  obtain ⟨x, hx⟩ : ∃ x, n * e = x := ⟨_, rfl⟩
  obtain ⟨y, hy⟩ : ∃ y, m * d = y := ⟨_, rfl⟩
  have e1 : IntKind.i64.wrap (n * e) = x := by rw [hx] at b1 ⊢; exact (IntKind.wrap_i64 _).trans (by omega)
  have e2 : IntKind.i64.wrap (m * d) = y := by rw [hy] at b2 ⊢; exact (IntKind.wrap_i64 _).trans (by omega)
  rw [hx, hy]
  clear h k hx hy b1 b2
  go_enter Try.func81, Try.ntmps81
  go_wp2
  go_ret
  exact ⟨rfl, (alloc_b).trans ((alloc_b).mono (by simp))⟩
end Go.Proofs.Ytngmaeinehfimaa
