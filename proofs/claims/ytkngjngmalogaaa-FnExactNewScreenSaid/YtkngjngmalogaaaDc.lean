/- Screens as the laws take them: counted, copied, compared. -/
import Derived.Test.YtkngjngmalogaaaDb
namespace Go.Proofs.Ytkngjngmalogaaa
open Go.ChangeShapes Go.WideShapes Go.ChangeAt Go.RowKit
set_option linter.unusedVariables false
theorem C4.far {w : World} {b : Nat} {v0 v1 v2 v3 : Value} (h : C4 w b v0 v1 v2 v3) (g j : Nat) (x : Value) (hg : b ≠ g) : C4 (w.setCell ⟨g, j, none⟩ x) b v0 v1 v2 v3 := h.block (Below.heap_setCell w ⟨g, j, none⟩ x b hg) (by simp)
/-- A screen whose rows are its own, as the laws copy them. -/
def Sk (w : World) (a : Value) (sw sh : Int) (L : List Col) (M : List Int) : Prop := ∃ g h, a = .agg #[.int .i64 sw, .int .i64 sh, .slice (some ⟨g, 0, none⟩) L.length L.length, .slice (some ⟨h, 0, none⟩) M.length M.length] ∧ RowH w g L.length (fun i => (L.getD i dC).r) (fun i => (L.getD i dC).g) (fun i => (L.getD i dC).b) (fun i => (L.getD i dC).a) ∧ Own w h M.length (fun i => .int .i64 (M.getD i 0))
theorem Sk.next {w w' : World} {a : Value} {sw sh : Int} {L : List Col} {M : List Int} (h : Sk w a sw sh L M) (b : Below w.heap.size w w') : Sk w' a sw sh L M := by
  obtain ⟨g, k, e, o1, o2⟩ := h
  exact ⟨g, k, e, o1.next b, o2.next b⟩
theorem own_ar {w : World} {g n : Nat} {L : List Int} (O : Own w g n (fun i => .int .i64 (L.getD i 0))) (hn : L.length = n) : ARow w (.slice (some ⟨g, 0, none⟩) n n) L := by
  subst hn
  exact ⟨_, _, rfl, fun i hi => ⟨g, 0, rfl, by rw [Nat.zero_add]; exact O.cell i hi⟩⟩
theorem Sk.rows {w : World} {a : Value} {sw sh : Int} {L : List Col} {M : List Int} (h : Sk w a sw sh L M) : ∃ u v, a = .agg #[.int .i64 sw, .int .i64 sh, u, v] ∧ KRow w u L ∧ ARow w v M := by
  obtain ⟨g, k, e, o1, o2⟩ := h
  exact ⟨_, _, e, o1.krow rfl, own_ar o2 rfl⟩
set_option maxRecDepth 100000 in
set_option maxHeartbeats 2000000 in
theorem szScr (sw sh : Int) (u v : Value) (L : List Col) (H : List Int) (w : World) (U : KRow w u L) (V : ARow w v H) (hl : L.length ≤ 9223372036854775807) (hh : H.length ≤ 9223372036854775807) (z : Int) (z0 : 0 ≤ z) (z1 : z ≤ 1048576) :
    Calls Try.prog 11 #[.agg #[.int .i64 sw, .int .i64 sh, u, v], .int .i64 z] w fun r w' => (∃ x : Int, r = .returned (.int .i64 x) ∧ (x < 0 ∨ 0 ≤ x ∧ x ≤ z ∧ (L.length : Int) + (H.length : Int) + x ≤ z)) ∧ Below w.heap.size w w' := by
  have A1 := szK (U.next (alloc_b (o := .cells #[.int .i64 sw, .int .i64 sh, u, v] 37))) hl z z0 z1
  have HV : Hid (∀ y : Int, 0 ≤ y → y ≤ 1048576 → Calls Try.prog 28 #[v, .int .i64 y] (w.alloc (.cells #[.int .i64 sw, .int .i64 sh, u, v] 37)) fun r w' => r = .returned (.int .i64 (if y < (H.length : Int) then -1 else y - H.length)) ∧ w' = w.alloc (.cells #[.int .i64 sw, .int .i64 sh, u, v] 37)) := fun y y0 y1 => szA (V.next alloc_b) hh y y0 y1
  obtain ⟨ad, c, rfl, -⟩ := U
  obtain ⟨bd, d, rfl, -⟩ := V
  generalize L.length = n at hl A1 HV ⊢
  generalize H.length = m at hh HV A1 ⊢
  by_cases h1 : z < (n : Int)
  · rw [if_pos h1] at A1
    clear HV
    go_enter Try.func11, Try.ntmps11
    go_wp2_with (go_at_call 27; refine A1.mono ?_; rintro e w2 ⟨rfl, hw⟩; subst w2)
    go_ret
    exact ⟨⟨_, rfl, Or.inl (by decide)⟩, alloc_b⟩
  rw [if_neg h1] at A1
  have A2 := HV.out (z - n) (by omega) (by omega)
  obtain ⟨y, hy⟩ : ∃ y : Int, z - (n : Int) = y := ⟨_, rfl⟩
  rw [hy] at A1 A2
  have y0 : ¬ y < 0 := by omega
  have HY := Hid.mk hy
  clear HV hy
  by_cases h2 : y < (m : Int)
  · rw [if_pos h2] at A2
    go_enter Try.func11, Try.ntmps11
    go_wp2_with (first | (go_at_call 27; refine A1.mono ?_; rintro e w2 ⟨rfl, hw⟩; subst w2) | (go_at_call 28; refine A2.mono ?_; rintro e w3 ⟨rfl, hw⟩; subst w3))
    go_ret
    exact ⟨⟨_, rfl, Or.inl (by decide)⟩, alloc_b⟩
  rw [if_neg h2] at A2
  obtain ⟨x, hx⟩ : ∃ x : Int, y - (m : Int) = x := ⟨_, rfl⟩
  rw [hx] at A2
  have x0 : ¬ x < 0 := by omega
  have HX := Hid.mk hx
  clear hx
  go_enter Try.func11, Try.ntmps11
  go_wp2_with (first | (go_at_call 27; refine A1.mono ?_; rintro e w2 ⟨rfl, hw⟩; subst w2) | (go_at_call 28; refine A2.mono ?_; rintro e w3 ⟨rfl, hw⟩; subst w3))
  go_ret
  exact ⟨⟨_, rfl, Or.inr ⟨by omega, by have := HX.out; have := HY.out; omega, by have := HX.out; have := HY.out; omega⟩⟩, alloc_b⟩
set_option maxRecDepth 100000 in
set_option maxHeartbeats 4000000 in
theorem toScr (sw sh : Int) (u v : Value) (L : List Col) (M : List Int) (w : World) (U : KRow w u L) (V : ARow w v M) (hl : L.length ≤ 1048576) (hh : M.length ≤ 1048576) : Calls Try.prog 13 #[.agg #[.int .i64 sw, .int .i64 sh, u, v]] w fun r w' => ∃ a, r = .returned a ∧ Sk w' a sw sh L M ∧ Below w.heap.size w w' := by
  have HU : Hid (∀ w', Below w.heap.size w w' → Calls Try.prog 29 #[u] w' fun r w'' => (∃ g, r = .returned (.slice (some ⟨g, 0, none⟩) L.length L.length) ∧ RowH w'' g L.length (fun i => (L.getD i dC).r) (fun i => (L.getD i dC).g) (fun i => (L.getD i dC).b) (fun i => (L.getD i dC).a) ∧ w'.heap.size ≤ g) ∧ Below w'.heap.size w' w'') := fun w' b => by
    have h := U.next b
    obtain ⟨ad, c, rfl, hx⟩ := h
    exact (argToH (KRow.arg ⟨ad, c, rfl, hx⟩) c hl).mono fun r w2 ⟨h1, h2, h3⟩ => ⟨⟨_, h1, h2, Nat.le_refl _⟩, h3⟩
  have HV : Hid (∀ w', Below w.heap.size w w' → Calls Try.prog 30 #[v] w' fun r w'' => (∃ g, r = .returned (.slice (some ⟨g, 0, none⟩) M.length M.length) ∧ Own w'' g M.length (fun i => .int .i64 (M.getD i 0)) ∧ w'.heap.size ≤ g) ∧ Below w'.heap.size w' w'') := fun w' b => by
    have h := V.next b
    obtain ⟨ad, c, rfl, hx⟩ := h
    exact (toN27 (arow_arg ⟨ad, c, rfl, hx⟩) c hh).mono fun r w2 ⟨h1, h2, h3⟩ => ⟨⟨_, h1, h2, Nat.le_refl _⟩, h3⟩
  obtain ⟨ad, c, rfl, -⟩ := U
  obtain ⟨bd, d, rfl, -⟩ := V
  have HR : Hid (∀ (w' : World) g h, RowH w' g L.length (fun i => (L.getD i dC).r) (fun i => (L.getD i dC).g) (fun i => (L.getD i dC).b) (fun i => (L.getD i dC).a) → Own w' h M.length (fun i => .int .i64 (M.getD i 0)) → Sk w' (.agg #[.int .i64 sw, .int .i64 sh, .slice (some ⟨g, 0, none⟩) L.length L.length, .slice (some ⟨h, 0, none⟩) M.length M.length]) sw sh L M) := fun w' g h o1 o2 => ⟨g, h, rfl, o1, o2⟩
  generalize (fun i => (L.getD i dC).r) = F0 at HU HR
  generalize (fun i => (L.getD i dC).g) = F1 at HU HR
  generalize (fun i => (L.getD i dC).b) = F2 at HU HR
  generalize (fun i => (L.getD i dC).a) = F3 at HU HR
  generalize (fun i => Value.int IntKind.i64 (M.getD i 0)) = FH at HV HR
  generalize hLn : L.length = n at hl HU HR
  generalize hHm : M.length = m at hh HV HR
  clear hLn hHm
  obtain ⟨W, hW⟩ : ∃ W, ((w.alloc (.cells #[.int .i64 sw, .int .i64 sh, .slice ad n c, .slice bd m d] 37)).alloc (.cells #[.int .i64 0, .int .i64 0, .slice none 0 0, .slice none 0 0] 27)).alloc (.cells #[.int .i64 sw, .int .i64 sh, .slice none 0 0, .slice none 0 0] 27) = W := ⟨_, rfl⟩
  have HWB : Hid (Below w.heap.size w W ∧ W.heap.size = w.heap.size + 3) := by
    rw [← hW]
    exact ⟨((alloc_b).trans ((alloc_b).mono (by simp))).trans ((alloc_b).mono (by simp; omega)), by simp⟩
  have HC : Hid (∀ w', Below W.heap.size W w' → C4 w' w.heap.size (.int .i64 sw) (.int .i64 sh) (.slice ad n c) (.slice bd m d) ∧ C4 w' (w.heap.size + 1) (.int .i64 0) (.int .i64 0) (.slice none 0 0) (.slice none 0 0) ∧ C4 w' (w.heap.size + 1 + 1) (.int .i64 sw) (.int .i64 sh) (.slice none 0 0) (.slice none 0 0)) := fun w' b => by
    have h0 := C4.new w 37 (.int .i64 sw) (.int .i64 sh) (.slice ad n c) (.slice bd m d)
    have h1 := C4.new (w.alloc (.cells #[.int .i64 sw, .int .i64 sh, .slice ad n c, .slice bd m d] 37)) 27 (.int .i64 0) (.int .i64 0) (.slice none 0 0) (.slice none 0 0)
    have h2 := C4.new ((w.alloc (.cells #[.int .i64 sw, .int .i64 sh, .slice ad n c, .slice bd m d] 37)).alloc (.cells #[.int .i64 0, .int .i64 0, .slice none 0 0, .slice none 0 0] 27)) 27 (.int .i64 sw) (.int .i64 sh) (.slice none 0 0) (.slice none 0 0)
    have e1 : (w.alloc (.cells #[.int .i64 sw, .int .i64 sh, .slice ad n c, .slice bd m d] 37)).heap.size = w.heap.size + 1 := by simp
    have e2 : ((w.alloc (.cells #[.int .i64 sw, .int .i64 sh, .slice ad n c, .slice bd m d] 37)).alloc (.cells #[.int .i64 0, .int .i64 0, .slice none 0 0, .slice none 0 0] 27)).heap.size = w.heap.size + 1 + 1 := by simp
    rw [e1] at h1
    rw [e2] at h2
    rw [← hW] at b
    exact ⟨((h0.next alloc_b).next alloc_b).next b, (h1.next alloc_b).next b, h2.next b⟩
  subst hW
  go_enter Try.func13, Try.ntmps13
  go_wp2_with (first
    | (go_at_call 29; refine (HU.out _ HWB.out.1).mono ?_; rintro e w2 ⟨⟨g, rfl, O2, hg⟩, B2⟩; obtain ⟨P2, R2, Z2⟩ := HC.out w2 B2; (have hg2 : w.heap.size + 3 ≤ g := by have := HWB.out.2; omega); (have D2 := HWB.out.1.trans (B2.mono HWB.out.1.size)); clear hg HC HWB B2; (have z0 := Z2.c0); (have z1 := Z2.c1); (have z2 := Z2.c2); (have z3 := Z2.c3); (have zf := Z2.f); (have p0 := P2.c0); (have p1 := P2.c1); (have p2 := P2.c2); (have p3 := P2.c3))
    | (go_at_call 30; refine (HV.out _ (D2.setCell (p := ⟨w.heap.size + 1 + 1, 2, none⟩) (by simp; omega) _)).mono ?_; rintro e w3 ⟨⟨h, rfl, O3, hh3⟩, B3⟩; (have D3 := (D2.setCell (p := ⟨w.heap.size + 1 + 1, 2, none⟩) (by simp; omega) (.slice (some ⟨g, 0, none⟩) n n)).trans (B3.mono (by have := D2.size; simp; omega))); (have Z3 := (Z2.s2 (.slice (some ⟨g, 0, none⟩) n n)).next B3); (have R3 := (R2.far (w.heap.size + 1 + 1) 2 (.slice (some ⟨g, 0, none⟩) n n) (by omega)).next B3); (have O2n := (O2.but ((Only.refl (w.heap.size + 1 + 1) w2).setCell 2 (.slice (some ⟨g, 0, none⟩) n n)) (by omega)).next B3); (have hh4 : w.heap.size + 3 ≤ h := by have := R2.hi; have := Z2.hi; have := O2.hi; simp at hh3; omega); clear z0 z1 z2 z3 zf p0 p1 p2 p3 P2 R2 Z2 O2 D2 B3 hh3; (have z0 := Z3.c0); (have z1 := Z3.c1); (have z2 := Z3.c2); (have z3 := Z3.c3); (have zf := Z3.f); (have r0 := R3.c0); (have r1 := R3.c1); (have r2 := R3.c2); (have r3 := R3.c3); (have rf := R3.f)))
  have ON2 : Only (w.heap.size + 1 + 1) w3 (w3.setCell ⟨w.heap.size + 1 + 1, 3, none⟩ (.slice (some ⟨h, 0, none⟩) m m)) := (Only.refl _ _).setCell _ _
  have RF := (R3.far (w.heap.size + 1 + 1) 3 (.slice (some ⟨h, 0, none⟩) m m) (by omega)).put (.int .i64 sw) (.int .i64 sh) (.slice (some ⟨g, 0, none⟩) n n) (.slice (some ⟨h, 0, none⟩) m m)
  have ON1 := only_set4 (w3.setCell ⟨w.heap.size + 1 + 1, 3, none⟩ (.slice (some ⟨h, 0, none⟩) m m)) (w.heap.size + 1) (.int .i64 sw) (.int .i64 sh) (.slice (some ⟨g, 0, none⟩) n n) (.slice (some ⟨h, 0, none⟩) m m)
  have OG := (O2n.but ON2 (by omega)).but ON1 (by omega)
  have OH := (O3.but ON2 (by omega)).but ON1 (by omega)
  have DF0 : Below w.heap.size w (w3.setCell ⟨w.heap.size + 1 + 1, 3, none⟩ (.slice (some ⟨h, 0, none⟩) m m)) := D3.setCell (p := ⟨w.heap.size + 1 + 1, 3, none⟩) (by simp; omega) (.slice (some ⟨h, 0, none⟩) m m)
  have DF := DF0.trans (ON1.below (by omega) DF0.size)
  unfold set4 at RF OG OH DF
  have q0 := RF.c0
  have q1 := RF.c1
  have q2 := RF.c2
  have q3 := RF.c3
  clear z0 z1 z2 z3 zf r0 r1 r2 r3 rf Z3 R3 O2n O3 D3 ON2 ON1 DF0
  exact bodyPost_ret (v := .agg #[.int .i64 sw, .int .i64 sh, .slice (some ⟨g, 0, none⟩) n n, .slice (some ⟨h, 0, none⟩) m m]) (by simp [results, Try.results13, go_sem, q0, q1, q2, q3]) rfl ⟨_, rfl, HR.out _ _ _ OG OH, DF⟩
set_option maxRecDepth 100000 in
set_option maxHeartbeats 2000000 in
theorem eqScr (sw sh : Int) (a b : Value) (L : List Col) (M : List Int) (w : World) (A : Sk w a sw sh L M) (B : Sk w b sw sh L M) (hl : L.length ≤ 1048576) (hh : M.length ≤ 1048576) : Calls Try.prog 8 #[a, b] w fun r w' => r = .returned (.bool true) ∧ Below w.heap.size w w' := by
  obtain ⟨g, h, rfl, o1, o2⟩ := A
  obtain ⟨k, l, rfl, o3, o4⟩ := B
  have HE1 : Hid (∀ w', Below w.heap.size w w' → Calls Try.prog 21 #[.slice (some ⟨g, 0, none⟩) L.length L.length, .slice (some ⟨k, 0, none⟩) L.length L.length] w' fun r w'' => r = .returned (.bool true) ∧ Below w'.heap.size w' w'') := fun w' b => eqRowH (o1.next b) (o3.next b) _ _ hl
  have HE2 : Hid (∀ w', Below w.heap.size w w' → Calls Try.prog 22 #[.slice (some ⟨h, 0, none⟩) M.length M.length, .slice (some ⟨l, 0, none⟩) M.length M.length] w' fun r w'' => r = .returned (.bool true) ∧ Below w'.heap.size w' w'') := fun w' b => (eqA25 hh ((own_ar o2 rfl).next b) ((own_ar o4 rfl).next b)).mono fun e w2 ⟨h1, q, h2⟩ => ⟨h1, by rw [h2]; exact below_drewN (Below.refl _ _) q⟩
  generalize L.length = n at HE1 o1 o3 hl ⊢
  generalize M.length = m at HE2 o2 o4 hh ⊢
  have HB : Hid (Below w.heap.size w ((w.alloc (.cells #[.int .i64 sw, .int .i64 sh, .slice (some ⟨g, 0, none⟩) n n, .slice (some ⟨h, 0, none⟩) m m] 27)).alloc (.cells #[.int .i64 sw, .int .i64 sh, .slice (some ⟨k, 0, none⟩) n n, .slice (some ⟨l, 0, none⟩) m m] 27))) := (alloc_b).trans ((alloc_b).mono (by simp))
  have HC : Hid (∀ w', Below ((w.alloc (.cells #[.int .i64 sw, .int .i64 sh, .slice (some ⟨g, 0, none⟩) n n, .slice (some ⟨h, 0, none⟩) m m] 27)).alloc (.cells #[.int .i64 sw, .int .i64 sh, .slice (some ⟨k, 0, none⟩) n n, .slice (some ⟨l, 0, none⟩) m m] 27)).heap.size ((w.alloc (.cells #[.int .i64 sw, .int .i64 sh, .slice (some ⟨g, 0, none⟩) n n, .slice (some ⟨h, 0, none⟩) m m] 27)).alloc (.cells #[.int .i64 sw, .int .i64 sh, .slice (some ⟨k, 0, none⟩) n n, .slice (some ⟨l, 0, none⟩) m m] 27)) w' → C4 w' w.heap.size (.int .i64 sw) (.int .i64 sh) (.slice (some ⟨g, 0, none⟩) n n) (.slice (some ⟨h, 0, none⟩) m m) ∧ C4 w' (w.heap.size + 1) (.int .i64 sw) (.int .i64 sh) (.slice (some ⟨k, 0, none⟩) n n) (.slice (some ⟨l, 0, none⟩) m m)) := fun w' b => by
    have h0 := C4.new w 27 (.int .i64 sw) (.int .i64 sh) (.slice (some ⟨g, 0, none⟩) n n) (.slice (some ⟨h, 0, none⟩) m m)
    have h1 := C4.new (w.alloc (.cells #[.int .i64 sw, .int .i64 sh, .slice (some ⟨g, 0, none⟩) n n, .slice (some ⟨h, 0, none⟩) m m] 27)) 27 (.int .i64 sw) (.int .i64 sh) (.slice (some ⟨k, 0, none⟩) n n) (.slice (some ⟨l, 0, none⟩) m m)
    have e1 : (w.alloc (.cells #[.int .i64 sw, .int .i64 sh, .slice (some ⟨g, 0, none⟩) n n, .slice (some ⟨h, 0, none⟩) m m] 27)).heap.size = w.heap.size + 1 := by simp
    rw [e1] at h1
    exact ⟨(h0.next alloc_b).next b, h1.next b⟩
  clear o1 o2 o3 o4
  go_enter Try.func8, Try.ntmps8
  go_wp2_with (first
    | (go_at_call 21; refine (HE1.out _ HB.out).mono ?_; rintro e w2 ⟨rfl, B2⟩; obtain ⟨P2, Q2⟩ := HC.out _ B2; (have D2 := HB.out.trans (B2.mono HB.out.size)); clear HC; (have p0 := P2.c0); (have p1 := P2.c1); (have p2 := P2.c2); (have p3 := P2.c3); (have q0 := Q2.c0); (have q1 := Q2.c1); (have q2 := Q2.c2); (have q3 := Q2.c3))
    | (go_at_call 22; refine (HE2.out _ D2).mono ?_; rintro e w3 ⟨rfl, B3⟩))
  go_ret
  exact ⟨rfl, D2.trans (B3.mono D2.size)⟩
end Go.Proofs.Ytkngjngmalogaaa
