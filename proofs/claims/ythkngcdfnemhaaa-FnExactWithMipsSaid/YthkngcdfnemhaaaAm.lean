/- FetchColor of the model. -/
import Derived.Test.YthkngcdfnemhaaaAl
namespace Go.Proofs.Ythkngcdfnemhaaa
open Go.ChangeShapes Go.WideShapes Go.ChangeAt Go.RowKit
set_option linter.unusedVariables false
/-- A color. -/
structure Col where
  r : Int
  g : Int
  b : Int
  a : Int
def colV (c : Col) : Value := .agg #[.int .i64 c.r, .int .i64 c.g, .int .i64 c.b, .int .i64 c.a]
/-- The color that stands in a row of bytes at a place. -/
def pxC (l : Int) (L : List Int) (pt : Nat) : Col := ⟨u0 l (cAt L pt), u1 l (cAt L pt), u2 l (cAt L pt), u3 l (cAt L pt)⟩
/-- Where the color at x, z of a level of A colors a row stands. -/
def ptN (l A x z : Int) : Nat := ((z * A + x) * (szF l : Int)).toNat
/-- The color that is fetched of a level of A by B colors. -/
def ftC (l A B : Int) (L : List Int) (x z e : Int) (c : Col) : Col := if edI x A e < 0 ∨ edI z B e < 0 then c else pxC l L (ptN l A (edI x A e) (edI z B e))
theorem pt_facts {l A B x z : Int} {len : Nat} (hf : l = 1 ∨ l = 2 ∨ l = 3) (a0 : 1 ≤ A) (a1 : A ≤ 16) (b0 : 1 ≤ B) (b1 : B ≤ 16) (hl : (len : Int) = A * B * (szF l : Int)) (x0 : 0 ≤ x) (x1 : x < A) (z0 : 0 ≤ z) (z1 : z < B) :
    ptN l A x z + szF l ≤ len ∧ (z * A + x) * (szF l : Int) = (ptN l A x z : Nat) ∧ 0 ≤ z * A ∧ z * A ≤ 256 ∧ ptN l A x z ≤ 4096 := by
  have hz : 1 ≤ szF l ∧ szF l ≤ 4 := by rcases hf with rfl | rfl | rfl <;> decide
  have h0 : 0 ≤ z * A := Int.mul_nonneg z0 (by omega)
  have h1 : z * A ≤ 15 * 16 := Int.mul_le_mul (by omega) a1 (by omega) (by omega)
  have h2 : (z + 1) * A ≤ B * A := Int.mul_le_mul_of_nonneg_right (by omega) (by omega)
  have h3 : (z + 1) * A = z * A + A := by rw [Int.add_mul, Int.one_mul]
  have h4 : B * A = A * B := Int.mul_comm _ _
  have h5 : z * A + x + 1 ≤ A * B := by omega
  have h6 : (z * A + x + 1) * (szF l : Int) ≤ A * B * (szF l : Int) := Int.mul_le_mul_of_nonneg_right h5 (by omega)
  have h7 : (z * A + x + 1) * (szF l : Int) = (z * A + x) * (szF l : Int) + szF l := by rw [Int.add_mul, Int.one_mul]
  have h8 : 0 ≤ (z * A + x) * (szF l : Int) := Int.mul_nonneg (by omega) (by omega)
  have h9 : (z * A + x) * (szF l : Int) ≤ 256 * 4 := Int.mul_le_mul (by omega) (by omega) (by omega) (by omega)
  unfold ptN
  omega
set_option maxRecDepth 100000 in
set_option maxHeartbeats 1000000 in
theorem margs (s y l : Int) (v : Value) (n : Nat) (F : Nat → List Int) (e r g b a : Int) (w : World) (R : BRows w v n F) (hn : n ≤ 1048576) (hfl : ∀ x, x < n → (F x).length ≤ 1048576) : Calls Try.prog 61 #[.agg #[.int .i64 s, .int .i64 y, .int .i64 l, v], .int .i64 e, .agg #[.int .i64 r, .int .i64 g, .int .i64 b, .int .i64 a]] w fun x w' => x = .returned (.bool (gtB s y l n F && egB e r g b a)) ∧ Below w.heap.size w w' := by
  have HM : Hid (∀ w', Below w.heap.size w w' → Calls Try.prog 24 #[.agg #[.int .i64 s, .int .i64 y, .int .i64 l, v]] w' fun e w'' => e = .returned (.bool (gtB s y l n F)) ∧ Below w'.heap.size w' w'') := fun w' b => mgoodT s y l v n F w' (R.next b) hn hfl
  have HC : Hid (∀ w : World, Calls Try.prog 11 #[.agg #[.int .i64 r, .int .i64 g, .int .i64 b, .int .i64 a]] w fun x w' => x = .returned (.bool (gdC r g b a)) ∧ Below w.heap.size w w') := fun w => good11 r g b a w
  have HB2 : Hid (Below w.heap.size w ((w.alloc (.cells #[.int .i64 s, .int .i64 y, .int .i64 l, v] 43)).alloc (.cells #[.int .i64 r, .int .i64 g, .int .i64 b, .int .i64 a] 25))) := b2_
  have HKK : Hid (∀ w', Below ((w.alloc (.cells #[.int .i64 s, .int .i64 y, .int .i64 l, v] 43)).alloc (.cells #[.int .i64 r, .int .i64 g, .int .i64 b, .int .i64 a] 25)).heap.size ((w.alloc (.cells #[.int .i64 s, .int .i64 y, .int .i64 l, v] 43)).alloc (.cells #[.int .i64 r, .int .i64 g, .int .i64 b, .int .i64 a] 25)) w' → C4 w' (w.heap.size + 1) (.int .i64 r) (.int .i64 g) (.int .i64 b) (.int .i64 a)) := fun w' B => by
    have h := (C4.new (w.alloc (.cells #[.int .i64 s, .int .i64 y, .int .i64 l, v] 43)) 25 (.int .i64 r) (.int .i64 g) (.int .i64 b) (.int .i64 a)).next B
    rwa [World.size_alloc] at h
  obtain ⟨ad, cp, rfl, _⟩ := R
  unfold egB
  generalize gtB s y l n F = GB at HM ⊢
  generalize gdC r g b a = GC at HC ⊢
  cases GB
  · go_enter Try.func61, Try.ntmps61
    go_wp2_with ((go_at_call 24; refine (HM.out _ HB2.out).mono ?_; rintro e w2 ⟨rfl, B2⟩; (have D2 := HKK.out w2 B2); (have d0 := D2.c0); (have d1 := D2.c1); (have d2 := D2.c2); (have d3 := D2.c3); (have BN := HB2.out.trans (B2.mono HB2.out.size))))
    go_ret
    exact ⟨rfl, BN⟩
  by_cases e1 : 1 ≤ e
  case neg =>
    rw [decide_eq_false e1]
    go_enter Try.func61, Try.ntmps61
    go_wp2_with ((go_at_call 24; refine (HM.out _ HB2.out).mono ?_; rintro e w2 ⟨rfl, B2⟩; (have D2 := HKK.out w2 B2); (have d0 := D2.c0); (have d1 := D2.c1); (have d2 := D2.c2); (have d3 := D2.c3); (have BN := HB2.out.trans (B2.mono HB2.out.size))))
    go_ret
    exact ⟨rfl, BN⟩
  by_cases e2 : e ≤ 4
  case neg =>
    rw [decide_eq_true e1, decide_eq_false e2]
    go_enter Try.func61, Try.ntmps61
    go_wp2_with ((go_at_call 24; refine (HM.out _ HB2.out).mono ?_; rintro e w2 ⟨rfl, B2⟩; (have D2 := HKK.out w2 B2); (have d0 := D2.c0); (have d1 := D2.c1); (have d2 := D2.c2); (have d3 := D2.c3); (have BN := HB2.out.trans (B2.mono HB2.out.size))))
    go_ret
    exact ⟨rfl, BN⟩
  by_cases e3 : e = 4
  case neg =>
    rw [decide_eq_true e1, decide_eq_true e2, decide_eq_true (show e ≠ 4 from e3)]
    go_enter Try.func61, Try.ntmps61
    go_wp2_with ((go_at_call 24; refine (HM.out _ HB2.out).mono ?_; rintro e w2 ⟨rfl, B2⟩; (have D2 := HKK.out w2 B2); (have d0 := D2.c0); (have d1 := D2.c1); (have d2 := D2.c2); (have d3 := D2.c3); (have BN := HB2.out.trans (B2.mono HB2.out.size))))
    go_ret
    exact ⟨rfl, BN⟩
  subst e3
  go_enter Try.func61, Try.ntmps61
  go_wp2_with (first | (go_at_call 24; refine (HM.out _ HB2.out).mono ?_; rintro e w2 ⟨rfl, B2⟩; (have D2 := HKK.out w2 B2); (have d0 := D2.c0); (have d1 := D2.c1); (have d2 := D2.c2); (have d3 := D2.c3); (have BN := HB2.out.trans (B2.mono HB2.out.size))) | (go_at_call 11; refine (HC.out _).mono ?_; rintro e w3 ⟨rfl, B3⟩; (have BN2 := BN.trans (B3.mono BN.size))))
  go_ret
  exact ⟨by cases GC <;> rfl, BN2⟩
set_option maxRecDepth 100000 in
set_option maxHeartbeats 2000000 in
theorem mfetch (s y l : Int) (v : Value) (n k : Nat) (F : Nat → List Int) (x z e : Int) (c : Col) (w : World) (R : BRows w v n F) (hg : gtB s y l n F = true) (hk : k < n) (bf : ByF n F) (hx : I64 x) (hz : I64 z) (hn : n ≤ 1048576) (hfl : ∀ x, x < n → (F x).length ≤ 1048576) :
    Calls Try.prog 62 #[.agg #[.int .i64 s, .int .i64 y, .int .i64 l, v], .int .i64 (k : Int), .int .i64 x, .int .i64 z, .int .i64 e, colV c] w fun e' w' => e' = .returned (colV (ftC l (sdI s k) (sdI y k) (F k) x z e c)) ∧ Below w.heap.size w w' := by
  obtain ⟨gs1, gs2, hfb, hnl, hlen⟩ := (gt_iff s y l n F).1 hg
  have hf : l = 1 ∨ l = 2 ∨ l = 3 := by
    rcases fm_cases l with h | h | h | h
    · exact Or.inl h
    · exact Or.inr (Or.inl h)
    · exact Or.inr (Or.inr h)
    · rw [(fm_no h).2.1] at hfb; cases hfb
  have k5 : k < 5 := by have := lcN_le s y; omega
  have hkL : k < lcN s y := by omega
  have H49 : Hid (∀ w, Calls Try.prog 49 #[.int .i64 s, .int .i64 y] w fun e w' => ∃ v, e = .returned v ∧ SdR w' v (lcN s y) s y ∧ Below w.heap.size w w') := fun w => sides49 s y w gs1 gs2
  have a0 := sdI_pos s k
  have a1 := sdI_le gs1 k k5
  have b0 := sdI_pos y k
  have b1 := sdI_le gs2 k k5
  have hl := hlen k hk
  obtain ⟨A, hA⟩ : ∃ A, sdI s k = A := ⟨_, rfl⟩
  obtain ⟨B, hB⟩ : ∃ B, sdI y k = B := ⟨_, rfl⟩
  have HAB : Hid (sdI s k = A ∧ sdI y k = B) := ⟨hA, hB⟩
  rw [hA] at a0 a1 hl ⊢
  rw [hB] at b0 b1 hl ⊢
  have HX : Hid (∀ w : World, Calls Try.prog 80 #[.int .i64 x, .int .i64 A, .int .i64 e] w fun r w' => r = .returned (.int .i64 (edI x A e)) ∧ w' = w) := fun w => medge x A e w hx a0 a1
  have HY : Hid (∀ w : World, Calls Try.prog 80 #[.int .i64 z, .int .i64 B, .int .i64 e] w fun r w' => r = .returned (.int .i64 (edI z B e)) ∧ w' = w) := fun w => medge z B e w hz b0 b1
  have xb := edI_bnd x A e a0
  have yb := edI_bnd z B e b0
  have HQ : Hid (ftC l A B (F k) x z e c = if edI x A e < 0 ∨ edI z B e < 0 then c else pxC l (F k) (ptN l A (edI x A e) (edI z B e))) := rfl
  generalize edI x A e = X at HX xb HQ
  generalize edI z B e = Y at HY yb HQ
  obtain ⟨q, hq⟩ : ∃ q, ftC l A B (F k) x z e c = q := ⟨_, rfl⟩
  rw [hq] at HQ ⊢
  have HA : Hid (¬ X < 0 → ¬ Y < 0 → ∀ w', Below w.heap.size w w' → Calls Try.prog 55 #[.agg #[.int .i64 s, .int .i64 y, .int .i64 l, v], .int .i64 (k : Int), .int .i64 A, .int .i64 X, .int .i64 Y] w' fun e w'' => e = .returned (.agg #[.int .i64 q.r, .int .i64 q.g, .int .i64 q.b, .int .i64 q.a]) ∧ Below w'.heap.size w' w'') := fun h1 h2 w' b => by
    obtain ⟨f1, f2, f3, f4, f5⟩ := pt_facts hf a0 a1 b0 b1 hl (show 0 ≤ X by omega) xb.2 (show 0 ≤ Y by omega) yb.2
    have h := mat s y l v n k (ptN l A X Y) F A X Y w' (R.next b) hk hf bf f1 f2 f3 f4 (by omega) (by omega) f5 hn (hfl k hk)
    rw [HQ.out, if_neg (by omega)]
    exact h
  obtain ⟨ad, cp, rfl, _⟩ := R
  have HALL : Hid (∀ w', Below (((w.alloc (.cells #[.int .i64 s, .int .i64 y, .int .i64 l, .slice ad n cp] 43)).alloc (.cells #[.int .i64 c.r, .int .i64 c.g, .int .i64 c.b, .int .i64 c.a] 25)).alloc (.cells #[.int .i64 0, .int .i64 0, .int .i64 0, .int .i64 0] 25)).heap.size (((w.alloc (.cells #[.int .i64 s, .int .i64 y, .int .i64 l, .slice ad n cp] 43)).alloc (.cells #[.int .i64 c.r, .int .i64 c.g, .int .i64 c.b, .int .i64 c.a] 25)).alloc (.cells #[.int .i64 0, .int .i64 0, .int .i64 0, .int .i64 0] 25)) w' → Hid (Below w.heap.size w w') ∧ C4 w' w.heap.size (.int .i64 s) (.int .i64 y) (.int .i64 l) (.slice ad n cp) ∧ C4 w' (w.heap.size + 1) (.int .i64 c.r) (.int .i64 c.g) (.int .i64 c.b) (.int .i64 c.a) ∧ C4 w' (w.heap.size + 1 + 1) (.int .i64 0) (.int .i64 0) (.int .i64 0) (.int .i64 0)) := fun w' b => ⟨(b3 (o1 := (.cells #[.int .i64 s, .int .i64 y, .int .i64 l, .slice ad n cp] 43)) (o2 := (.cells #[.int .i64 c.r, .int .i64 c.g, .int .i64 c.b, .int .i64 c.a] 25)) (o3 := (.cells #[.int .i64 0, .int .i64 0, .int .i64 0, .int .i64 0] 25))).trans (b.mono (b3 (o1 := (.cells #[.int .i64 s, .int .i64 y, .int .i64 l, .slice ad n cp] 43)) (o2 := (.cells #[.int .i64 c.r, .int .i64 c.g, .int .i64 c.b, .int .i64 c.a] 25)) (o3 := (.cells #[.int .i64 0, .int .i64 0, .int .i64 0, .int .i64 0] 25))).size), (((C4.new w 43 (.int .i64 s) (.int .i64 y) (.int .i64 l) (.slice ad n cp)).next (alloc_b (o := (.cells #[.int .i64 c.r, .int .i64 c.g, .int .i64 c.b, .int .i64 c.a] 25)))).next (alloc_b (o := (.cells #[.int .i64 0, .int .i64 0, .int .i64 0, .int .i64 0] 25)))).next b, by
    have h := ((C4.new (w.alloc (.cells #[.int .i64 s, .int .i64 y, .int .i64 l, .slice ad n cp] 43)) 25 (.int .i64 c.r) (.int .i64 c.g) (.int .i64 c.b) (.int .i64 c.a)).next (alloc_b (o := (.cells #[.int .i64 0, .int .i64 0, .int .i64 0, .int .i64 0] 25)))).next b
    rwa [World.size_alloc] at h, by
    have h := (C4.new ((w.alloc (.cells #[.int .i64 s, .int .i64 y, .int .i64 l, .slice ad n cp] 43)).alloc (.cells #[.int .i64 c.r, .int .i64 c.g, .int .i64 c.b, .int .i64 c.a] 25)) 25 (.int .i64 0) (.int .i64 0) (.int .i64 0) (.int .i64 0)).next b
    rwa [World.size_alloc, World.size_alloc] at h⟩
  have i0 : (0 : Int) ≤ (k : Int) := by omega
  have i1 : (k : Int) < ((lcN s y : Nat) : Int) := by omega
  have lc5 := lcN_le s y
  clear hnl
  generalize lcN s y = lc at *
  unfold colV
  by_cases hb : X < 0 ∨ Y < 0
  · have HQ2 : Hid (q = c) := by show q = c; rw [HQ.out, if_pos hb]
    clear HA HQ hq hlen hg
    have hxy : X < 0 ∨ (¬ X < 0 ∧ Y < 0) := by omega
    clear hb
    rcases hxy with h1 | ⟨h1, h2⟩
    all_goals
      go_enter Try.func62, Try.ntmps62
      go_wp2_with (first | (go_at_call 49; refine (H49.out _).mono ?_; rintro e9 w2 ⟨v2, rfl, ⟨g2, cc2, p, rfl, hsd⟩, B2⟩; (obtain ⟨f1, f2, f3⟩ := hsd k hkL); clear hsd; rw [HAB.out.1] at f2; rw [HAB.out.2] at f3; (obtain ⟨BXX, T2, K2, DX⟩ := HALL.out w2 B2); (have t0 := T2.c0); (have t1 := T2.c1); (have t2 := T2.c2); (have t3 := T2.c3); (have k0 := K2.c0); (have k1 := K2.c1); (have k2 := K2.c2); (have k3 := K2.c3); (have x0 := DX.c0); (have x1 := DX.c1); (have x2 := DX.c2); (have x3 := DX.c3); (have xf := DX.f)) | (go_at_call 80; (with_reducible show Calls Try.prog 80 #[.int .i64 x, .int .i64 A, .int .i64 e] _ _); refine (HX.out _).mono ?_; rintro e9 w9 ⟨rfl, hw9⟩; subst w9) | (go_at_call 80; (with_reducible show Calls Try.prog 80 #[.int .i64 z, .int .i64 B, .int .i64 e] _ _); refine (HY.out _).mono ?_; rintro e9 w9 ⟨rfl, hw9⟩; subst w9))
      have D6 := DX.put (.int .i64 c.r) (.int .i64 c.g) (.int .i64 c.b) (.int .i64 c.a)
      have B06 : Below w.heap.size w (set4 w2 (w.heap.size + 1 + 1) (.int .i64 c.r) (.int .i64 c.g) (.int .i64 c.b) (.int .i64 c.a)) := BXX.out.trans ((only_set4 w2 (w.heap.size + 1 + 1) _ _ _ _).below (by omega) BXX.out.size)
      clear x0 x1 x2 x3 xf
      obtain rfl := HQ2.out
      unfold set4 at D6 B06
      have r0 := D6.c0
      have r1 := D6.c1
      have r2 := D6.c2
      have r3 := D6.c3
      exact bodyPost_ret (v := .agg #[.int .i64 q.r, .int .i64 q.g, .int .i64 q.b, .int .i64 q.a]) (by simp [results, Try.results62, go_sem, r0, r1, r2, r3]) rfl ⟨rfl, B06⟩
  · have h1 : ¬ X < 0 := fun h => hb (Or.inl h)
    have h2 : ¬ Y < 0 := fun h => hb (Or.inr h)
    have HAT := Hid.mk (HA.out h1 h2)
    clear HQ hq hlen hg hb HA
    go_enter Try.func62, Try.ntmps62
    go_wp2_with (first | (go_at_call 49; refine (H49.out _).mono ?_; rintro e9 w2 ⟨v2, rfl, ⟨g2, cc2, p, rfl, hsd⟩, B2⟩; (obtain ⟨f1, f2, f3⟩ := hsd k hkL); clear hsd; rw [HAB.out.1] at f2; rw [HAB.out.2] at f3; (obtain ⟨BXX, T2, K2, DX⟩ := HALL.out w2 B2); (have t0 := T2.c0); (have t1 := T2.c1); (have t2 := T2.c2); (have t3 := T2.c3); (have k0 := K2.c0); (have k1 := K2.c1); (have k2 := K2.c2); (have k3 := K2.c3); (have x0 := DX.c0); (have x1 := DX.c1); (have x2 := DX.c2); (have x3 := DX.c3); (have xf := DX.f)) | (go_at_call 80; (with_reducible show Calls Try.prog 80 #[.int .i64 x, .int .i64 A, .int .i64 e] _ _); refine (HX.out _).mono ?_; rintro e9 w9 ⟨rfl, hw9⟩; subst w9) | (go_at_call 80; (with_reducible show Calls Try.prog 80 #[.int .i64 z, .int .i64 B, .int .i64 e] _ _); refine (HY.out _).mono ?_; rintro e9 w9 ⟨rfl, hw9⟩; subst w9))
    have hpk : p k ≠ w.heap.size + 1 + 1 := fun h => by
      rw [h] at f2
      rw [x0] at f2
      injection f2 with f2
      injection f2 with _ f2
      omega
    generalize hWW : w2.drew = WX
    have BXX := Hid.mk (below_drew BXX.out)
    have SX := And.intro t0 (And.intro t1 (And.intro t2 (And.intro t3 f2)))
    clear t0 t1 t2 t3 k0 k1 k2 k3 x0 x1 x2 x3 xf T2 K2
    have DX := DX.next (below_drew (Below.refl _ _))
    rw [hWW] at BXX DX
    refine wp_region_held_drew (S := fun v => v.cell? ⟨w.heap.size, 0, none⟩ = some (.int .i64 s) ∧ v.cell? ⟨w.heap.size, 1, none⟩ = some (.int .i64 y) ∧ v.cell? ⟨w.heap.size, 2, none⟩ = some (.int .i64 l) ∧ v.cell? ⟨w.heap.size, 3, none⟩ = some (.slice ad n cp) ∧ v.cell? ⟨p k, 0, none⟩ = some (.int .i64 A)) (by kernel_rfl) SX (fun hH => ?_)
    rw [hWW] at hH ⊢
    clear hWW SX
    refine wpAnyH_take (i := 0) (oi := { dst := some 41, op := Op.load 43 (Operand.tmp 6), type := 43, pos := "l16_texture.go:179", after := #[], guard := none }) (v := .agg #[.int .i64 s, .int .i64 y, .int .i64 l, .slice ad n cp]) rfl (by kernel_rfl) (by kernel_rfl) (by kernel_rfl) (fun _ _ _ h => h) (Or.inl ⟨by rfl, fun w0 hSw => by ((have e0 := hSw.1); (have e1 := hSw.2.1); (have e2 := hSw.2.2.1); (have e3 := hSw.2.2.2.1); go_simp)⟩) hH ?_
    simp only [Act.put, List.setIfInBounds_toArray, List.set_cons_zero, List.set_cons_succ]
    refine wpAnyH_take (i := 1) (oi := { dst := some 42, op := Op.move (Operand.tmp 1), type := 3, pos := "l16_texture.go:179", after := #[], guard := none }) (v := .int .i64 (k : Int)) rfl (by kernel_rfl) (by kernel_rfl) (by kernel_rfl) (fun _ _ _ h => h) (Or.inl ⟨by rfl, fun w0 hSw => by (go_simp)⟩) hH ?_
    simp only [Act.put, List.setIfInBounds_toArray, List.set_cons_zero, List.set_cons_succ]
    refine wpAnyH_take (i := 2) (oi := { dst := some 43, op := Op.move (Operand.tmp 13), type := 73, pos := "l16_texture.go:179", after := #[], guard := none }) (v := .slice (some ⟨p k, 0, none⟩) 2 2) rfl (by kernel_rfl) (by kernel_rfl) (by kernel_rfl) (fun _ _ _ h => h) (Or.inl ⟨by rfl, fun w0 hSw => by (go_simp)⟩) hH ?_
    simp only [Act.put, List.setIfInBounds_toArray, List.set_cons_zero, List.set_cons_succ]
    refine wpAnyH_take (i := 3) (oi := { dst := some 44, op := Op.indexAddr 73 (Operand.tmp 43) (Operand.const (Value.int IntKind.i64 0)), type := 0, pos := "l16_texture.go:179", after := #[{ on := 2, ground := Ground.data }], guard := none }) (v := .pointer (some ⟨p k, 0, none⟩)) rfl (by kernel_rfl) (by kernel_rfl) (by kernel_rfl) (fun _ _ _ h => h) (Or.inl ⟨by rfl, fun w0 hSw => by (go_simp)⟩) hH ?_
    simp only [Act.put, List.setIfInBounds_toArray, List.set_cons_zero, List.set_cons_succ]
    refine wpAnyH_take (i := 4) (oi := { dst := some 45, op := Op.load 3 (Operand.tmp 44), type := 3, pos := "l16_texture.go:179", after := #[{ on := 3, ground := Ground.data }], guard := none }) (v := .int .i64 A) rfl (by kernel_rfl) (by kernel_rfl) (by kernel_rfl) (fun _ _ _ h => h) (Or.inl ⟨by rfl, fun w0 hSw => by ((have e0 := hSw.2.2.2.2); go_simp)⟩) hH ?_
    simp only [Act.put, List.setIfInBounds_toArray, List.set_cons_zero, List.set_cons_succ]
    refine wpAnyH_take (i := 5) (oi := { dst := some 46, op := Op.move (Operand.tmp 2), type := 3, pos := "l16_texture.go:179", after := #[], guard := none }) (v := .int .i64 X) rfl (by kernel_rfl) (by kernel_rfl) (by kernel_rfl) (fun _ _ _ h => h) (Or.inl ⟨by rfl, fun w0 hSw => by (go_simp)⟩) hH ?_
    simp only [Act.put, List.setIfInBounds_toArray, List.set_cons_zero, List.set_cons_succ]
    refine wpAnyH_take (i := 6) (oi := { dst := some 47, op := Op.move (Operand.tmp 3), type := 3, pos := "l16_texture.go:179", after := #[], guard := none }) (v := .int .i64 Y) rfl (by kernel_rfl) (by kernel_rfl) (by kernel_rfl) (fun _ _ _ h => h) (Or.inl ⟨by rfl, fun w0 hSw => by (go_simp)⟩) hH ?_
    simp only [Act.put, List.setIfInBounds_toArray, List.set_cons_zero, List.set_cons_succ]
    refine wpAnyH_ready (rs := [7]) (by kernel_rfl) (by simp) ?_
    refine (AllReadyH.cons (o := { dst := some 48, op := Op.call { callee := Callee.value (Operand.func 55), args := #[Operand.tmp 41, Operand.tmp 42, Operand.tmp 45, Operand.tmp 46, Operand.tmp 47], argTypes := #[43, 3, 3, 3, 3] }, type := 25, pos := "l16_texture.go:179", after := #[{ on := 0, ground := Ground.data }, { on := 1, ground := Ground.data }, { on := 4, ground := Ground.data }, { on := 5, ground := Ground.data }, { on := 6, ground := Ground.data }], guard := none }) rfl (fun K hK => ?_) AllReadyH.nil)
    refine step_callC 55 #[.agg #[.int .i64 s, .int .i64 y, .int .i64 l, .slice ad n cp], .int .i64 (k : Int), .int .i64 A, .int .i64 X, .int .i64 Y] (fun z v w' => z = .agg #[.int .i64 q.r, .int .i64 q.g, .int .i64 q.b, .int .i64 q.a] ∧ Below v.heap.size v w') (by rfl) (by go_simp) ((HAT.out _ BXX.out).mono fun e w' ⟨h1, h2⟩ => ⟨_, h1, rfl, h2⟩) ?_
    rintro z5 w5 ⟨rfl, B5⟩
    have D5 := DX.next B5
    have B05 := BXX.out.trans (B5.mono BXX.out.size)
    have s0 := D5.c0
    have s1 := D5.c1
    have s2 := D5.c2
    have s3 := D5.c3
    have sf := D5.f
    have O6 := only_set4 w5 (w.heap.size + 1 + 1) (.int .i64 q.r) (.int .i64 q.g) (.int .i64 q.b) (.int .i64 q.a)
    have D6 := D5.put (.int .i64 q.r) (.int .i64 q.g) (.int .i64 q.b) (.int .i64 q.a)
    have B06 : Below w.heap.size w (set4 w5 (w.heap.size + 1 + 1) (.int .i64 q.r) (.int .i64 q.g) (.int .i64 q.b) (.int .i64 q.a)) := B05.trans (O6.below (by omega) B05.size)
    simp only [Act.put, List.setIfInBounds_toArray, List.set_cons_zero, List.set_cons_succ]
    refine hK.out _ _ ⟨cell_nx hH.1 B5, cell_nx hH.2.1 B5, cell_nx hH.2.2.1 B5, cell_nx hH.2.2.2.1 B5, cell_nx hH.2.2.2.2 B5⟩ (fun hH' => ?_)
    clear hK K
    replace hH := hH'
    clear hH' 
    refine wpAnyH_ready (rs := [8]) (by kernel_rfl) (by simp) ?_
    refine (AllReadyH.cons (o := { dst := none, op := Op.store 25 (Operand.tmp 12) (Operand.tmp 48), type := 0, pos := "l16_texture.go:179", after := #[{ on := 7, ground := Ground.data }, { on := 7, ground := Ground.chain }, { on := 0, ground := Ground.phase }, { on := 1, ground := Ground.phase }, { on := 2, ground := Ground.phase }, { on := 3, ground := Ground.phase }, { on := 4, ground := Ground.phase }, { on := 5, ground := Ground.phase }, { on := 6, ground := Ground.phase }, { on := 7, ground := Ground.phase }], guard := none }) rfl (fun K hK => ?_) AllReadyH.nil)
    refine step_skip (set4 w5 (w.heap.size + 1 + 1) (.int .i64 q.r) (.int .i64 q.g) (.int .i64 q.b) (.int .i64 q.a)) (by rfl) (by unfold set4; go_simp) ?_
    refine hK.out _ _ ⟨O6.cell hH.1 (by omega), O6.cell hH.2.1 (by omega), O6.cell hH.2.2.1 (by omega), O6.cell hH.2.2.2.1 (by omega), O6.cell hH.2.2.2.2 (by omega)⟩ (fun hH' => ?_)
    clear hK K
    replace hH := hH'
    clear hH' 
    refine wpAnyH_done (by kernel_rfl) ?_ _
    clear s0 s1 s2 s3 sf D5 B5 B05 O6 DX hH
    go_wp2
    generalize set4 w5 (w.heap.size + 1 + 1) (.int .i64 q.r) (.int .i64 q.g) (.int .i64 q.b) (.int .i64 q.a) = V at D6 B06 ⊢
    have r0 := D6.c0
    have r1 := D6.c1
    have r2 := D6.c2
    have r3 := D6.c3
    exact bodyPost_ret (v := .agg #[.int .i64 q.r, .int .i64 q.g, .int .i64 q.b, .int .i64 q.a]) (by simp [results, Try.results62, go_sem, r0, r1, r2, r3]) rfl ⟨rfl, B06⟩
end Go.Proofs.Ythkngcdfnemhaaa
