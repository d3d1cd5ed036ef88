/- Blocks and rays as the laws take them: counted, copied, compared; two rows as an argument. -/
import Derived.Test.YtngmaeinehfimaaLd
namespace Go.Proofs.Ytngmaeinehfimaa
open Go.ChangeShapes Go.WideShapes Go.ChangeAt Go.RowKit
set_option linter.unusedVariables false
theorem C2.far {w : World} {b : Nat} {v0 v1 : Value} (h : C2 w b v0 v1) (g j : Nat) (x : Value) (hg : b ≠ g) : C2 (w.setCell ⟨g, j, none⟩ x) b v0 v1 := h.block (Below.heap_setCell w ⟨g, j, none⟩ x b hg) (by simp)
/-- Two rows of its own, as the laws copy them. -/
def Bk (w : World) (a : Value) (L H : List Int) : Prop := ∃ g h, a = .agg #[.slice (some ⟨g, 0, none⟩) L.length L.length, .slice (some ⟨h, 0, none⟩) H.length H.length] ∧ Own w g L.length (fun i => .int .i64 (L.getD i 0)) ∧ Own w h H.length (fun i => .int .i64 (H.getD i 0))
theorem Bk.next {w w' : World} {a : Value} {L H : List Int} (h : Bk w a L H) (b : Below w.heap.size w w') : Bk w' a L H := by
  obtain ⟨g, k, e, o1, o2⟩ := h
  exact ⟨g, k, e, o1.next b, o2.next b⟩
theorem own_ar {w : World} {g n : Nat} {L : List Int} (O : Own w g n (fun i => .int .i64 (L.getD i 0))) (hn : L.length = n) : ARow w (.slice (some ⟨g, 0, none⟩) n n) L := by
  subst hn
  exact ⟨_, _, rfl, fun i hi => ⟨g, 0, rfl, by rw [Nat.zero_add]; exact O.cell i hi⟩⟩
theorem Bk.rows {w : World} {a : Value} {L H : List Int} (h : Bk w a L H) : ∃ u v, a = .agg #[u, v] ∧ ARow w u L ∧ ARow w v H := by
  obtain ⟨g, k, e, o1, o2⟩ := h
  exact ⟨_, _, e, own_ar o1 rfl, own_ar o2 rfl⟩
set_option maxRecDepth 100000 in
set_option maxHeartbeats 2000000 in
theorem szB (u v : Value) (L H : List Int) (w : World) (U : ARow w u L) (V : ARow w v H) (hl : L.length ≤ 9223372036854775807) (hh : H.length ≤ 9223372036854775807) (z : Int) (z0 : 0 ≤ z) (z1 : z ≤ 1048576) :
    Calls Try.prog 11 #[.agg #[u, v], .int .i64 z] w fun r w' => (∃ x : Int, r = .returned (.int .i64 x) ∧ (x < 0 ∨ 0 ≤ x ∧ x ≤ z ∧ (L.length : Int) + (H.length : Int) + x ≤ z)) ∧ Below w.heap.size w w' := by
  have A1 := szA (U.next (alloc_b (o := .cells #[u, v] 24))) hl z z0 z1
  have HV : Hid (∀ y : Int, 0 ≤ y → y ≤ 1048576 → Calls Try.prog 47 #[v, .int .i64 y] (w.alloc (.cells #[u, v] 24)) fun r w' => r = .returned (.int .i64 (if y < (H.length : Int) then -1 else y - H.length)) ∧ w' = w.alloc (.cells #[u, v] 24)) := fun y y0 y1 => szA (V.next alloc_b) hh y y0 y1
  obtain ⟨ad, c, rfl, -⟩ := U
  obtain ⟨bd, d, rfl, -⟩ := V
  generalize L.length = n at hl A1 HV ⊢
  generalize H.length = m at hh HV A1 ⊢
  by_cases h1 : z < (n : Int)
  · rw [if_pos h1] at A1
    clear HV
    go_enter Try.func11, Try.ntmps11
    go_wp2_with (go_at_call 47; refine A1.mono ?_; rintro e w2 ⟨rfl, hw⟩; subst w2)
    go_ret
    exact ⟨⟨_, rfl, Or.inl (by decide)⟩, alloc_b⟩
  rw [if_neg h1] at A1
  have A2 := HV.out (z - n) (by omega) (by omega)
  obtain ⟨y, hy⟩ : ∃ y : Int, z - (n : Int) = y := ⟨_, rfl⟩
  rw [hy] at A1 A2
  have y0 : ¬ y < 0 := by omega
  have HY := Hid.mk hy
  clear HV hy
  by_cases h2 : y < (m : Int)
  · rw [if_pos h2] at A2
    go_enter Try.func11, Try.ntmps11
    go_wp2_with (first | (go_at_call 47; (with_reducible show Calls Try.prog 47 #[.slice ad _ c, _] _ _); refine A1.mono ?_; rintro e w2 ⟨rfl, hw⟩; subst w2) | (go_at_call 47; refine A2.mono ?_; rintro e w3 ⟨rfl, hw⟩; subst w3))
    go_ret
    exact ⟨⟨_, rfl, Or.inl (by decide)⟩, alloc_b⟩
  rw [if_neg h2] at A2
  obtain ⟨x, hx⟩ : ∃ x : Int, y - (m : Int) = x := ⟨_, rfl⟩
  rw [hx] at A2
  have x0 : ¬ x < 0 := by omega
  have HX := Hid.mk hx
  clear hx
  go_enter Try.func11, Try.ntmps11
  go_wp2_with (first | (go_at_call 47; (with_reducible show Calls Try.prog 47 #[.slice ad _ c, _] _ _); refine A1.mono ?_; rintro e w2 ⟨rfl, hw⟩; subst w2) | (go_at_call 47; refine A2.mono ?_; rintro e w3 ⟨rfl, hw⟩; subst w3))
  go_ret
  exact ⟨⟨_, rfl, Or.inr ⟨by omega, by have := HX.out; have := HY.out; omega, by have := HX.out; have := HY.out; omega⟩⟩, alloc_b⟩
set_option maxRecDepth 100000 in
set_option maxHeartbeats 4000000 in
theorem toB (u v : Value) (L H : List Int) (w : World) (U : ARow w u L) (V : ARow w v H) (hl : L.length ≤ 1048576) (hh : H.length ≤ 1048576) : Calls Try.prog 13 #[.agg #[u, v]] w fun r w' => ∃ a, r = .returned a ∧ Bk w' a L H ∧ Below w.heap.size w w' := by
  have HU : Hid (∀ w', Below w.heap.size w w' → Calls Try.prog 49 #[u] w' fun r w'' => (∃ g, r = .returned (.slice (some ⟨g, 0, none⟩) L.length L.length) ∧ Own w'' g L.length (fun i => .int .i64 (L.getD i 0)) ∧ w'.heap.size ≤ g) ∧ Below w'.heap.size w' w'') := fun w' b => by
    have h := U.next b
    obtain ⟨ad, c, rfl, hx⟩ := h
    exact (toN27 (arow_arg ⟨ad, c, rfl, hx⟩) c hl).mono fun r w2 ⟨h1, h2, h3⟩ => ⟨⟨_, h1, h2, Nat.le_refl _⟩, h3⟩
  have HV : Hid (∀ w', Below w.heap.size w w' → Calls Try.prog 49 #[v] w' fun r w'' => (∃ g, r = .returned (.slice (some ⟨g, 0, none⟩) H.length H.length) ∧ Own w'' g H.length (fun i => .int .i64 (H.getD i 0)) ∧ w'.heap.size ≤ g) ∧ Below w'.heap.size w' w'') := fun w' b => by
    have h := V.next b
    obtain ⟨ad, c, rfl, hx⟩ := h
    exact (toN27 (arow_arg ⟨ad, c, rfl, hx⟩) c hh).mono fun r w2 ⟨h1, h2, h3⟩ => ⟨⟨_, h1, h2, Nat.le_refl _⟩, h3⟩
  obtain ⟨ad, c, rfl, -⟩ := U
  obtain ⟨bd, d, rfl, -⟩ := V
  have HR : Hid (∀ (w' : World) g h, Own w' g L.length (fun i => .int .i64 (L.getD i 0)) → Own w' h H.length (fun i => .int .i64 (H.getD i 0)) → Bk w' (.agg #[.slice (some ⟨g, 0, none⟩) L.length L.length, .slice (some ⟨h, 0, none⟩) H.length H.length]) L H) := fun w' g h o1 o2 => ⟨g, h, rfl, o1, o2⟩
  generalize (fun i => Value.int IntKind.i64 (L.getD i 0)) = FL at HU HR
  generalize (fun i => Value.int IntKind.i64 (H.getD i 0)) = FH at HV HR
  generalize hLn : L.length = n at hl HU HR
  generalize hHm : H.length = m at hh HV HR
  clear hLn hHm
  obtain ⟨W, hW⟩ : ∃ W, ((w.alloc (.cells #[.slice ad n c, .slice bd m d] 24)).alloc (.cells #[.slice none 0 0, .slice none 0 0] 27)).alloc (.cells #[.slice none 0 0, .slice none 0 0] 27) = W := ⟨_, rfl⟩
  have HWB : Hid (Below w.heap.size w W ∧ W.heap.size = w.heap.size + 3) := by
    rw [← hW]
    exact ⟨((alloc_b).trans ((alloc_b).mono (by simp))).trans ((alloc_b).mono (by simp; omega)), by simp⟩
  have HC : Hid (∀ w', Below W.heap.size W w' → C2 w' w.heap.size (.slice ad n c) (.slice bd m d) ∧ C2 w' (w.heap.size + 1) (.slice none 0 0) (.slice none 0 0) ∧ C2 w' (w.heap.size + 1 + 1) (.slice none 0 0) (.slice none 0 0)) := fun w' b => by
    have h0 := C2.new w 24 (.slice ad n c) (.slice bd m d)
    have h1 := C2.new (w.alloc (.cells #[.slice ad n c, .slice bd m d] 24)) 27 (.slice none 0 0) (.slice none 0 0)
    have h2 := C2.new ((w.alloc (.cells #[.slice ad n c, .slice bd m d] 24)).alloc (.cells #[.slice none 0 0, .slice none 0 0] 27)) 27 (.slice none 0 0) (.slice none 0 0)
    have e1 : (w.alloc (.cells #[.slice ad n c, .slice bd m d] 24)).heap.size = w.heap.size + 1 := by simp
    have e2 : ((w.alloc (.cells #[.slice ad n c, .slice bd m d] 24)).alloc (.cells #[.slice none 0 0, .slice none 0 0] 27)).heap.size = w.heap.size + 1 + 1 := by simp
    rw [e1] at h1
    rw [e2] at h2
    rw [← hW] at b
    exact ⟨((h0.next alloc_b).next alloc_b).next b, (h1.next alloc_b).next b, h2.next b⟩
  subst hW
  go_enter Try.func13, Try.ntmps13
  go_wp2_with (first
    | (go_at_call 49; (with_reducible show Calls Try.prog 49 #[.slice ad n c] _ _); refine (HU.out _ HWB.out.1).mono ?_; rintro e w2 ⟨⟨g, rfl, O2, hg⟩, B2⟩; obtain ⟨P2, R2, Z2⟩ := HC.out w2 B2; (have hg2 : w.heap.size + 3 ≤ g := by have := HWB.out.2; omega); (have D2 := HWB.out.1.trans (B2.mono HWB.out.1.size)); clear hg HC HWB B2; (have z0 := Z2.c0); (have z1 := Z2.c1); (have zf := Z2.f); (have p0 := P2.c0); (have p1 := P2.c1))
    | (go_at_call 49; refine (HV.out _ (D2.setCell (p := ⟨w.heap.size + 1 + 1, 0, none⟩) (by simp; omega) _)).mono ?_; rintro e w3 ⟨⟨h, rfl, O3, hh3⟩, B3⟩; (have D3 := (D2.setCell (p := ⟨w.heap.size + 1 + 1, 0, none⟩) (by simp; omega) (.slice (some ⟨g, 0, none⟩) n n)).trans (B3.mono (by have := D2.size; simp; omega))); (have Z3 := (Z2.s0 (.slice (some ⟨g, 0, none⟩) n n)).next B3); (have R3 := (R2.far (w.heap.size + 1 + 1) 0 (.slice (some ⟨g, 0, none⟩) n n) (by omega)).next B3); (have O2n := (O2.but ((Only.refl (w.heap.size + 1 + 1) w2).setCell 0 (.slice (some ⟨g, 0, none⟩) n n)) (by omega)).next B3); (have hh4 : w.heap.size + 3 ≤ h := by have := R2.hi; have := Z2.hi; have := O2.hi; simp at hh3; omega); clear z0 z1 zf p0 p1 P2 R2 Z2 O2 D2 B3 hh3; (have z0 := Z3.c0); (have z1 := Z3.c1); (have zf := Z3.f); (have r0 := R3.c0); (have r1 := R3.c1); (have rf := R3.f)))
  have RF := ((R3.far (w.heap.size + 1 + 1) 1 (.slice (some ⟨h, 0, none⟩) m m) (by omega)).s0 (.slice (some ⟨g, 0, none⟩) n n)).s1 (.slice (some ⟨h, 0, none⟩) m m)
  have ON2 : Only (w.heap.size + 1 + 1) w3 (w3.setCell ⟨w.heap.size + 1 + 1, 1, none⟩ (.slice (some ⟨h, 0, none⟩) m m)) := (Only.refl _ _).setCell _ _
  have OG := ((O2n.but ON2 (by omega)).but ((Only.refl (w.heap.size + 1) _).setCell 0 (.slice (some ⟨g, 0, none⟩) n n)) (by omega)).but ((Only.refl (w.heap.size + 1) _).setCell 1 (.slice (some ⟨h, 0, none⟩) m m)) (by omega)
  have OH := ((O3.but ON2 (by omega)).but ((Only.refl (w.heap.size + 1) _).setCell 0 (.slice (some ⟨g, 0, none⟩) n n)) (by omega)).but ((Only.refl (w.heap.size + 1) _).setCell 1 (.slice (some ⟨h, 0, none⟩) m m)) (by omega)
  have DF := ((D3.setCell (p := ⟨w.heap.size + 1 + 1, 1, none⟩) (by simp; omega) (.slice (some ⟨h, 0, none⟩) m m)).setCell (p := ⟨w.heap.size + 1, 0, none⟩) (by simp) (.slice (some ⟨g, 0, none⟩) n n)).setCell (p := ⟨w.heap.size + 1, 1, none⟩) (by simp) (.slice (some ⟨h, 0, none⟩) m m)
  have q0 := RF.c0
  have q1 := RF.c1
  clear z0 z1 zf r0 r1 rf Z3 R3 O2n O3 D3 ON2
  exact bodyPost_ret (v := .agg #[.slice (some ⟨g, 0, none⟩) n n, .slice (some ⟨h, 0, none⟩) m m]) (by simp [results, Try.results13, go_sem, q0, q1]) rfl ⟨_, rfl, HR.out _ _ _ OG OH, DF⟩
set_option maxRecDepth 100000 in
set_option maxHeartbeats 2000000 in
theorem eqB (a b : Value) (L H : List Int) (w : World) (A : Bk w a L H) (B : Bk w b L H) (hl : L.length ≤ 1048576) (hh : H.length ≤ 1048576) : Calls Try.prog 15 #[a, b] w fun r w' => r = .returned (.bool true) ∧ Below w.heap.size w w' := by
  obtain ⟨g, h, rfl, o1, o2⟩ := A
  obtain ⟨k, l, rfl, o3, o4⟩ := B
  have HE1 : Hid (∀ w', Below w.heap.size w w' → Calls Try.prog 51 #[.slice (some ⟨g, 0, none⟩) L.length L.length, .slice (some ⟨k, 0, none⟩) L.length L.length] w' fun r w'' => r = .returned (.bool true) ∧ Below w'.heap.size w' w'') := fun w' b => (eqA25 hl ((own_ar o1 rfl).next b) ((own_ar o3 rfl).next b)).mono fun e w2 ⟨h1, q, h2⟩ => ⟨h1, by rw [h2]; exact below_drewN (Below.refl _ _) q⟩
  have HE2 : Hid (∀ w', Below w.heap.size w w' → Calls Try.prog 51 #[.slice (some ⟨h, 0, none⟩) H.length H.length, .slice (some ⟨l, 0, none⟩) H.length H.length] w' fun r w'' => r = .returned (.bool true) ∧ Below w'.heap.size w' w'') := fun w' b => (eqA25 hh ((own_ar o2 rfl).next b) ((own_ar o4 rfl).next b)).mono fun e w2 ⟨h1, q, h2⟩ => ⟨h1, by rw [h2]; exact below_drewN (Below.refl _ _) q⟩
  generalize L.length = n at HE1 o1 o3 hl ⊢
  generalize H.length = m at HE2 o2 o4 hh ⊢
  have HB : Hid (Below w.heap.size w ((w.alloc (.cells #[.slice (some ⟨g, 0, none⟩) n n, .slice (some ⟨h, 0, none⟩) m m] 27)).alloc (.cells #[.slice (some ⟨k, 0, none⟩) n n, .slice (some ⟨l, 0, none⟩) m m] 27))) := (alloc_b).trans ((alloc_b).mono (by simp))
  have HC : Hid (∀ w', Below ((w.alloc (.cells #[.slice (some ⟨g, 0, none⟩) n n, .slice (some ⟨h, 0, none⟩) m m] 27)).alloc (.cells #[.slice (some ⟨k, 0, none⟩) n n, .slice (some ⟨l, 0, none⟩) m m] 27)).heap.size ((w.alloc (.cells #[.slice (some ⟨g, 0, none⟩) n n, .slice (some ⟨h, 0, none⟩) m m] 27)).alloc (.cells #[.slice (some ⟨k, 0, none⟩) n n, .slice (some ⟨l, 0, none⟩) m m] 27)) w' → C2 w' w.heap.size (.slice (some ⟨g, 0, none⟩) n n) (.slice (some ⟨h, 0, none⟩) m m) ∧ C2 w' (w.heap.size + 1) (.slice (some ⟨k, 0, none⟩) n n) (.slice (some ⟨l, 0, none⟩) m m)) := fun w' b => by
    have h0 := C2.new w 27 (.slice (some ⟨g, 0, none⟩) n n) (.slice (some ⟨h, 0, none⟩) m m)
    have h1 := C2.new (w.alloc (.cells #[.slice (some ⟨g, 0, none⟩) n n, .slice (some ⟨h, 0, none⟩) m m] 27)) 27 (.slice (some ⟨k, 0, none⟩) n n) (.slice (some ⟨l, 0, none⟩) m m)
    have e1 : (w.alloc (.cells #[.slice (some ⟨g, 0, none⟩) n n, .slice (some ⟨h, 0, none⟩) m m] 27)).heap.size = w.heap.size + 1 := by simp
    rw [e1] at h1
    exact ⟨(h0.next alloc_b).next b, h1.next b⟩
  clear o1 o2 o3 o4
  go_enter Try.func15, Try.ntmps15
  go_wp2_with (first
    | (go_at_call 51; (with_reducible show Calls Try.prog 51 #[.slice (some ⟨g, 0, none⟩) n n, _] _ _); refine (HE1.out _ HB.out).mono ?_; rintro e w2 ⟨rfl, B2⟩; obtain ⟨P2, Q2⟩ := HC.out _ B2; (have D2 := HB.out.trans (B2.mono HB.out.size)); clear HC; (have p0 := P2.c0); (have p1 := P2.c1); (have q0 := Q2.c0); (have q1 := Q2.c1))
    | (go_at_call 51; refine (HE2.out _ D2).mono ?_; rintro e w3 ⟨rfl, B3⟩))
  go_ret
  exact ⟨rfl, D2.trans (B3.mono D2.size)⟩
set_option maxRecDepth 100000 in
set_option maxHeartbeats 2000000 in
theorem szR (u v : Value) (L H : List Int) (w : World) (U : ARow w u L) (V : ARow w v H) (hl : L.length ≤ 9223372036854775807) (hh : H.length ≤ 9223372036854775807) (z : Int) (z0 : 0 ≤ z) (z1 : z ≤ 1048576) :
    Calls Try.prog 16 #[.agg #[u, v], .int .i64 z] w fun r w' => (∃ x : Int, r = .returned (.int .i64 x) ∧ (x < 0 ∨ 0 ≤ x ∧ x ≤ z ∧ (L.length : Int) + (H.length : Int) + x ≤ z)) ∧ Below w.heap.size w w' := by
  have A1 := szA (U.next (alloc_b (o := .cells #[u, v] 32))) hl z z0 z1
  have HV : Hid (∀ y : Int, 0 ≤ y → y ≤ 1048576 → Calls Try.prog 47 #[v, .int .i64 y] (w.alloc (.cells #[u, v] 32)) fun r w' => r = .returned (.int .i64 (if y < (H.length : Int) then -1 else y - H.length)) ∧ w' = w.alloc (.cells #[u, v] 32)) := fun y y0 y1 => szA (V.next alloc_b) hh y y0 y1
  obtain ⟨ad, c, rfl, -⟩ := U
  obtain ⟨bd, d, rfl, -⟩ := V
  generalize L.length = n at hl A1 HV ⊢
  generalize H.length = m at hh HV A1 ⊢
  by_cases h1 : z < (n : Int)
  · rw [if_pos h1] at A1
    clear HV
    go_enter Try.func16, Try.ntmps16
    go_wp2_with (go_at_call 47; refine A1.mono ?_; rintro e w2 ⟨rfl, hw⟩; subst w2)
    go_ret
    exact ⟨⟨_, rfl, Or.inl (by decide)⟩, alloc_b⟩
  rw [if_neg h1] at A1
  have A2 := HV.out (z - n) (by omega) (by omega)
  obtain ⟨y, hy⟩ : ∃ y : Int, z - (n : Int) = y := ⟨_, rfl⟩
  rw [hy] at A1 A2
  have y0 : ¬ y < 0 := by omega
  have HY := Hid.mk hy
  clear HV hy
  by_cases h2 : y < (m : Int)
  · rw [if_pos h2] at A2
    go_enter Try.func16, Try.ntmps16
    go_wp2_with (first | (go_at_call 47; (with_reducible show Calls Try.prog 47 #[.slice ad _ c, _] _ _); refine A1.mono ?_; rintro e w2 ⟨rfl, hw⟩; subst w2) | (go_at_call 47; refine A2.mono ?_; rintro e w3 ⟨rfl, hw⟩; subst w3))
    go_ret
    exact ⟨⟨_, rfl, Or.inl (by decide)⟩, alloc_b⟩
  rw [if_neg h2] at A2
  obtain ⟨x, hx⟩ : ∃ x : Int, y - (m : Int) = x := ⟨_, rfl⟩
  rw [hx] at A2
  have x0 : ¬ x < 0 := by omega
  have HX := Hid.mk hx
  clear hx
  go_enter Try.func16, Try.ntmps16
  go_wp2_with (first | (go_at_call 47; (with_reducible show Calls Try.prog 47 #[.slice ad _ c, _] _ _); refine A1.mono ?_; rintro e w2 ⟨rfl, hw⟩; subst w2) | (go_at_call 47; refine A2.mono ?_; rintro e w3 ⟨rfl, hw⟩; subst w3))
  go_ret
  exact ⟨⟨_, rfl, Or.inr ⟨by omega, by have := HX.out; have := HY.out; omega, by have := HX.out; have := HY.out; omega⟩⟩, alloc_b⟩
set_option maxRecDepth 100000 in
set_option maxHeartbeats 4000000 in
theorem toR (u v : Value) (L H : List Int) (w : World) (U : ARow w u L) (V : ARow w v H) (hl : L.length ≤ 1048576) (hh : H.length ≤ 1048576) : Calls Try.prog 18 #[.agg #[u, v]] w fun r w' => ∃ a, r = .returned a ∧ Bk w' a L H ∧ Below w.heap.size w w' := by
  have HU : Hid (∀ w', Below w.heap.size w w' → Calls Try.prog 49 #[u] w' fun r w'' => (∃ g, r = .returned (.slice (some ⟨g, 0, none⟩) L.length L.length) ∧ Own w'' g L.length (fun i => .int .i64 (L.getD i 0)) ∧ w'.heap.size ≤ g) ∧ Below w'.heap.size w' w'') := fun w' b => by
    have h := U.next b
    obtain ⟨ad, c, rfl, hx⟩ := h
    exact (toN27 (arow_arg ⟨ad, c, rfl, hx⟩) c hl).mono fun r w2 ⟨h1, h2, h3⟩ => ⟨⟨_, h1, h2, Nat.le_refl _⟩, h3⟩
  have HV : Hid (∀ w', Below w.heap.size w w' → Calls Try.prog 49 #[v] w' fun r w'' => (∃ g, r = .returned (.slice (some ⟨g, 0, none⟩) H.length H.length) ∧ Own w'' g H.length (fun i => .int .i64 (H.getD i 0)) ∧ w'.heap.size ≤ g) ∧ Below w'.heap.size w' w'') := fun w' b => by
    have h := V.next b
    obtain ⟨ad, c, rfl, hx⟩ := h
    exact (toN27 (arow_arg ⟨ad, c, rfl, hx⟩) c hh).mono fun r w2 ⟨h1, h2, h3⟩ => ⟨⟨_, h1, h2, Nat.le_refl _⟩, h3⟩
  obtain ⟨ad, c, rfl, -⟩ := U
  obtain ⟨bd, d, rfl, -⟩ := V
  have HR : Hid (∀ (w' : World) g h, Own w' g L.length (fun i => .int .i64 (L.getD i 0)) → Own w' h H.length (fun i => .int .i64 (H.getD i 0)) → Bk w' (.agg #[.slice (some ⟨g, 0, none⟩) L.length L.length, .slice (some ⟨h, 0, none⟩) H.length H.length]) L H) := fun w' g h o1 o2 => ⟨g, h, rfl, o1, o2⟩
  generalize (fun i => Value.int IntKind.i64 (L.getD i 0)) = FL at HU HR
  generalize (fun i => Value.int IntKind.i64 (H.getD i 0)) = FH at HV HR
  generalize hLn : L.length = n at hl HU HR
  generalize hHm : H.length = m at hh HV HR
  clear hLn hHm
  obtain ⟨W, hW⟩ : ∃ W, ((w.alloc (.cells #[.slice ad n c, .slice bd m d] 32)).alloc (.cells #[.slice none 0 0, .slice none 0 0] 35)).alloc (.cells #[.slice none 0 0, .slice none 0 0] 35) = W := ⟨_, rfl⟩
  have HWB : Hid (Below w.heap.size w W ∧ W.heap.size = w.heap.size + 3) := by
    rw [← hW]
    exact ⟨((alloc_b).trans ((alloc_b).mono (by simp))).trans ((alloc_b).mono (by simp; omega)), by simp⟩
  have HC : Hid (∀ w', Below W.heap.size W w' → C2 w' w.heap.size (.slice ad n c) (.slice bd m d) ∧ C2 w' (w.heap.size + 1) (.slice none 0 0) (.slice none 0 0) ∧ C2 w' (w.heap.size + 1 + 1) (.slice none 0 0) (.slice none 0 0)) := fun w' b => by
    have h0 := C2.new w 32 (.slice ad n c) (.slice bd m d)
    have h1 := C2.new (w.alloc (.cells #[.slice ad n c, .slice bd m d] 32)) 35 (.slice none 0 0) (.slice none 0 0)
    have h2 := C2.new ((w.alloc (.cells #[.slice ad n c, .slice bd m d] 32)).alloc (.cells #[.slice none 0 0, .slice none 0 0] 35)) 35 (.slice none 0 0) (.slice none 0 0)
    have e1 : (w.alloc (.cells #[.slice ad n c, .slice bd m d] 32)).heap.size = w.heap.size + 1 := by simp
    have e2 : ((w.alloc (.cells #[.slice ad n c, .slice bd m d] 32)).alloc (.cells #[.slice none 0 0, .slice none 0 0] 35)).heap.size = w.heap.size + 1 + 1 := by simp
    rw [e1] at h1
    rw [e2] at h2
    rw [← hW] at b
    exact ⟨((h0.next alloc_b).next alloc_b).next b, (h1.next alloc_b).next b, h2.next b⟩
  subst hW
  go_enter Try.func18, Try.ntmps18
  go_wp2_with (first
    | (go_at_call 49; (with_reducible show Calls Try.prog 49 #[.slice ad n c] _ _); refine (HU.out _ HWB.out.1).mono ?_; rintro e w2 ⟨⟨g, rfl, O2, hg⟩, B2⟩; obtain ⟨P2, R2, Z2⟩ := HC.out w2 B2; (have hg2 : w.heap.size + 3 ≤ g := by have := HWB.out.2; omega); (have D2 := HWB.out.1.trans (B2.mono HWB.out.1.size)); clear hg HC HWB B2; (have z0 := Z2.c0); (have z1 := Z2.c1); (have zf := Z2.f); (have p0 := P2.c0); (have p1 := P2.c1))
    | (go_at_call 49; refine (HV.out _ (D2.setCell (p := ⟨w.heap.size + 1 + 1, 0, none⟩) (by simp; omega) _)).mono ?_; rintro e w3 ⟨⟨h, rfl, O3, hh3⟩, B3⟩; (have D3 := (D2.setCell (p := ⟨w.heap.size + 1 + 1, 0, none⟩) (by simp; omega) (.slice (some ⟨g, 0, none⟩) n n)).trans (B3.mono (by have := D2.size; simp; omega))); (have Z3 := (Z2.s0 (.slice (some ⟨g, 0, none⟩) n n)).next B3); (have R3 := (R2.far (w.heap.size + 1 + 1) 0 (.slice (some ⟨g, 0, none⟩) n n) (by omega)).next B3); (have O2n := (O2.but ((Only.refl (w.heap.size + 1 + 1) w2).setCell 0 (.slice (some ⟨g, 0, none⟩) n n)) (by omega)).next B3); (have hh4 : w.heap.size + 3 ≤ h := by have := R2.hi; have := Z2.hi; have := O2.hi; simp at hh3; omega); clear z0 z1 zf p0 p1 P2 R2 Z2 O2 D2 B3 hh3; (have z0 := Z3.c0); (have z1 := Z3.c1); (have zf := Z3.f); (have r0 := R3.c0); (have r1 := R3.c1); (have rf := R3.f)))
  have RF := ((R3.far (w.heap.size + 1 + 1) 1 (.slice (some ⟨h, 0, none⟩) m m) (by omega)).s0 (.slice (some ⟨g, 0, none⟩) n n)).s1 (.slice (some ⟨h, 0, none⟩) m m)
  have ON2 : Only (w.heap.size + 1 + 1) w3 (w3.setCell ⟨w.heap.size + 1 + 1, 1, none⟩ (.slice (some ⟨h, 0, none⟩) m m)) := (Only.refl _ _).setCell _ _
  have OG := ((O2n.but ON2 (by omega)).but ((Only.refl (w.heap.size + 1) _).setCell 0 (.slice (some ⟨g, 0, none⟩) n n)) (by omega)).but ((Only.refl (w.heap.size + 1) _).setCell 1 (.slice (some ⟨h, 0, none⟩) m m)) (by omega)
  have OH := ((O3.but ON2 (by omega)).but ((Only.refl (w.heap.size + 1) _).setCell 0 (.slice (some ⟨g, 0, none⟩) n n)) (by omega)).but ((Only.refl (w.heap.size + 1) _).setCell 1 (.slice (some ⟨h, 0, none⟩) m m)) (by omega)
  have DF := ((D3.setCell (p := ⟨w.heap.size + 1 + 1, 1, none⟩) (by simp; omega) (.slice (some ⟨h, 0, none⟩) m m)).setCell (p := ⟨w.heap.size + 1, 0, none⟩) (by simp) (.slice (some ⟨g, 0, none⟩) n n)).setCell (p := ⟨w.heap.size + 1, 1, none⟩) (by simp) (.slice (some ⟨h, 0, none⟩) m m)
  have q0 := RF.c0
  have q1 := RF.c1
  clear z0 z1 zf r0 r1 rf Z3 R3 O2n O3 D3 ON2
  exact bodyPost_ret (v := .agg #[.slice (some ⟨g, 0, none⟩) n n, .slice (some ⟨h, 0, none⟩) m m]) (by simp [results, Try.results18, go_sem, q0, q1]) rfl ⟨_, rfl, HR.out _ _ _ OG OH, DF⟩
set_option maxRecDepth 100000 in
set_option maxHeartbeats 2000000 in
theorem eqR (a b : Value) (L H : List Int) (w : World) (A : Bk w a L H) (B : Bk w b L H) (hl : L.length ≤ 1048576) (hh : H.length ≤ 1048576) : Calls Try.prog 20 #[a, b] w fun r w' => r = .returned (.bool true) ∧ Below w.heap.size w w' := by
  obtain ⟨g, h, rfl, o1, o2⟩ := A
  obtain ⟨k, l, rfl, o3, o4⟩ := B
  have HE1 : Hid (∀ w', Below w.heap.size w w' → Calls Try.prog 51 #[.slice (some ⟨g, 0, none⟩) L.length L.length, .slice (some ⟨k, 0, none⟩) L.length L.length] w' fun r w'' => r = .returned (.bool true) ∧ Below w'.heap.size w' w'') := fun w' b => (eqA25 hl ((own_ar o1 rfl).next b) ((own_ar o3 rfl).next b)).mono fun e w2 ⟨h1, q, h2⟩ => ⟨h1, by rw [h2]; exact below_drewN (Below.refl _ _) q⟩
  have HE2 : Hid (∀ w', Below w.heap.size w w' → Calls Try.prog 51 #[.slice (some ⟨h, 0, none⟩) H.length H.length, .slice (some ⟨l, 0, none⟩) H.length H.length] w' fun r w'' => r = .returned (.bool true) ∧ Below w'.heap.size w' w'') := fun w' b => (eqA25 hh ((own_ar o2 rfl).next b) ((own_ar o4 rfl).next b)).mono fun e w2 ⟨h1, q, h2⟩ => ⟨h1, by rw [h2]; exact below_drewN (Below.refl _ _) q⟩
  generalize L.length = n at HE1 o1 o3 hl ⊢
  generalize H.length = m at HE2 o2 o4 hh ⊢
  have HB : Hid (Below w.heap.size w ((w.alloc (.cells #[.slice (some ⟨g, 0, none⟩) n n, .slice (some ⟨h, 0, none⟩) m m] 35)).alloc (.cells #[.slice (some ⟨k, 0, none⟩) n n, .slice (some ⟨l, 0, none⟩) m m] 35))) := (alloc_b).trans ((alloc_b).mono (by simp))
  have HC : Hid (∀ w', Below ((w.alloc (.cells #[.slice (some ⟨g, 0, none⟩) n n, .slice (some ⟨h, 0, none⟩) m m] 35)).alloc (.cells #[.slice (some ⟨k, 0, none⟩) n n, .slice (some ⟨l, 0, none⟩) m m] 35)).heap.size ((w.alloc (.cells #[.slice (some ⟨g, 0, none⟩) n n, .slice (some ⟨h, 0, none⟩) m m] 35)).alloc (.cells #[.slice (some ⟨k, 0, none⟩) n n, .slice (some ⟨l, 0, none⟩) m m] 35)) w' → C2 w' w.heap.size (.slice (some ⟨g, 0, none⟩) n n) (.slice (some ⟨h, 0, none⟩) m m) ∧ C2 w' (w.heap.size + 1) (.slice (some ⟨k, 0, none⟩) n n) (.slice (some ⟨l, 0, none⟩) m m)) := fun w' b => by
    have h0 := C2.new w 35 (.slice (some ⟨g, 0, none⟩) n n) (.slice (some ⟨h, 0, none⟩) m m)
    have h1 := C2.new (w.alloc (.cells #[.slice (some ⟨g, 0, none⟩) n n, .slice (some ⟨h, 0, none⟩) m m] 35)) 35 (.slice (some ⟨k, 0, none⟩) n n) (.slice (some ⟨l, 0, none⟩) m m)
    have e1 : (w.alloc (.cells #[.slice (some ⟨g, 0, none⟩) n n, .slice (some ⟨h, 0, none⟩) m m] 35)).heap.size = w.heap.size + 1 := by simp
    rw [e1] at h1
    exact ⟨(h0.next alloc_b).next b, h1.next b⟩
  clear o1 o2 o3 o4
  go_enter Try.func20, Try.ntmps20
  go_wp2_with (first
    | (go_at_call 51; (with_reducible show Calls Try.prog 51 #[.slice (some ⟨g, 0, none⟩) n n, _] _ _); refine (HE1.out _ HB.out).mono ?_; rintro e w2 ⟨rfl, B2⟩; obtain ⟨P2, Q2⟩ := HC.out _ B2; (have D2 := HB.out.trans (B2.mono HB.out.size)); clear HC; (have p0 := P2.c0); (have p1 := P2.c1); (have q0 := Q2.c0); (have q1 := Q2.c1))
    | (go_at_call 51; refine (HE2.out _ D2).mono ?_; rintro e w3 ⟨rfl, B3⟩))
  go_ret
  exact ⟨rfl, D2.trans (B3.mono D2.size)⟩
section
variable {H : Type} {enc : TypeId × Value → H} {P : Program} {W : World} {base : Nat}
theorem rowOf {t e : TypeId} {v : Value} {fuel : Nat} {d : DataW H × List MemPlace} (ht : P.underlying t = some (.slice e)) (he : P.underlying e = some (.int .i64)) (hc : P.cellsOf e = 1)
    (h : DataW.trod enc P W 0 (fun _ => true) true fuel t [v] = some d) : ∃ L, ARow W v L ∧ L.length ≤ 9223372036854775807 := by
  rcases open_ints ht he hc h with ⟨hcs, hx⟩ | ⟨a, len, cap, zs, hcs, _, hl, hm, hz, hx, hcell, hwz⟩
  · simp at hcs
    subst hcs
    exact ⟨[], ⟨_, _, rfl, fun i hi => absurd hi (Nat.not_lt_zero _)⟩, by simp⟩
  · simp at hcs
    subst hcs
    simp only [if_true] at hz
    refine ⟨fl (fun i => zs.getD i 0) len, ⟨some a, cap, by rw [fl_len], fun i hi => ?_⟩, by rw [fl_len]; have := (by decide : maxLen ≤ 9223372036854775807); omega⟩
    rw [fl_len] at hi
    obtain ⟨b, off, spot⟩ := a
    have hspot : spot = none := by simpa [Addr.add] using World.cell?_spot (hcell 0 (by omega))
    subst hspot
    refine ⟨b, off, rfl, ?_⟩
    rw [fl_at _ _ _ hi, ← add_plain]
    exact hcell i (by omega)
theorem view2 {e r : TypeId} {f0 f1 : Field} {v : Value} {d : DataW H} {p : List MemPlace} (he : P.underlying e = some (.struct #[f0, f1])) (ce : P.cellsOf e = 2)
    (o0 : f0.offset = 0) (o1 : f1.offset = 1) (c0 : P.cellsOf f0.type = 1) (c1 : P.cellsOf f1.type = 1) (u0 : P.underlying f0.type = some (.slice r)) (u1 : P.underlying f1.type = some (.slice r)) (ur : P.underlying r = some (.int .i64)) (cr : P.cellsOf r = 1)
    (hok : Value.okWide P W .any base e v) (h : DataW.Trod enc P W 0 (fun _ => true) true e v d p) :
    ∃ (x y : Value) (L M : List Int), v = .agg #[x, y] ∧ ARow W x L ∧ ARow W y M ∧ L.length ≤ 9223372036854775807 ∧ M.length ≤ 9223372036854775807 := by
  obtain ⟨cs, rfl, hs⟩ := okWide_struct he hok
  obtain ⟨fuel, h2⟩ := h
  rw [ce] at hs
  obtain ⟨l⟩ := cs
  simp only [Value.cells] at h2
  obtain ⟨xs, k, hk, hxy, _, hxl, hf⟩ := DataW.trod_struct he h2
  match xs, hxl, l, hs with
  | [y0, y1], _, [v0, v1], _ =>
    have g0 := hf 0 f0 rfl
    have g1 := hf 1 f1 rfl
    simp [o0, o1, c0, c1] at g0 g1
    obtain ⟨L, a1, a2⟩ := rowOf u0 ur cr g0
    obtain ⟨M, b1, b2⟩ := rowOf u1 ur cr g1
    exact ⟨_, _, L, M, rfl, a1, b1, a2, b2⟩
end
end Go.Proofs.Ytngmaeinehfimaa
