/- CacheRead answers as its model at every cache (4 numbers, rows of lines, a coin) and every place; it writes into no argument, and its answer owns its memory. No conditions. -/
import Derived.Test.YtfhpjcojccfcoaaRows
import Derived.Test.YtfhpjcojccfcoaaCq
namespace Go.Proofs.Ytfhpjcojccfcoaa.fnExactCacheRead
open Go.ChangeShapes Go.WideShapes Go.ChangeAt Go.RowKit
set_option linter.unusedVariables false
theorem own : ownKnob Try.prog.godebug = none := by kernel_rfl
theorem laidOut : laidOutB Try.prog = true := by kernel_rfl
theorem tot_bd (L : Nat → List Int) (n b : Nat) (h : ∀ x, x < n → (L x).length ≤ b) : tot L n ≤ n * b := by
  induction n with
  | zero => exact Nat.zero_le _
  | succ n ih =>
    have h1 := ih (fun x hx => h x (by omega))
    have h2 := h n (by omega)
    rw [tot_succ, Nat.succ_mul]
    omega

set_option maxRecDepth 100000 in
set_option maxHeartbeats 4000000 in
theorem walk (w : World) (s y l q c : Int) (ad : Option Addr) (n cp : Nat) (f : Nat → List Int) (mn : n ≤ 9223372036854775807) (R : ARows w (.slice ad n cp) n f) (mf : ∀ i, i < n → (f i).length ≤ 9223372036854775807) (a1 : Int) (w1 : (Lit.int .i64 a1).wf = true) :
    Calls Try.prog 8 #[.agg #[.int .i64 s, .int .i64 y, .int .i64 l, .int .i64 q, .slice ad n cp, .int .i64 c], .int .i64 a1] w fun e w' => e = .returned (.bool true) ∧ Below w.heap.size w w' := by
  have BA : Below w.heap.size w (w.alloc (.cells #[.int .i64 s, .int .i64 y, .int .i64 l, .int .i64 q, .slice ad n cp, .int .i64 c] 48)) := alloc_b
  have CA := C6.new w 48 (.int .i64 s) (.int .i64 y) (.int .i64 l) (.int .i64 q) (.slice ad n cp) (.int .i64 c)
  have h28 := szC s y l q c (.slice ad n cp) n f _ (R.next BA) mn mf 1048576 (by decide) (by decide)
  have HRR : Hid (∀ w', Below w.heap.size w w' → ARows w' (.slice ad n cp) n f) := fun w' b => R.next b
  obtain ⟨W1, hW1⟩ : ∃ W, w.alloc (.cells #[.int .i64 s, .int .i64 y, .int .i64 l, .int .i64 q, .slice ad n cp, .int .i64 c] 48) = W := ⟨_, rfl⟩
  have HCA : Hid (∀ w', Below W1.heap.size W1 w' → C6 w' w.heap.size (.int .i64 s) (.int .i64 y) (.int .i64 l) (.int .i64 q) (.slice ad n cp) (.int .i64 c)) := fun w' b => by rw [hW1] at CA; exact CA.next b
  have HW1 : Hid (W1.heap.size = w.heap.size + 1) := by show _ = _; rw [← hW1, World.size_alloc]
  rw [hW1] at BA CA h28
  have HBA := Hid.mk BA
  clear R BA CA
  subst hW1
  go_enter Try.func8, Try.ntmps8
  go_wp2_with (go_at_call 28; refine h28.mono ?_; rintro e w2 ⟨⟨x, rfl, hx⟩, B2⟩; (have C2 := HCA.out w2 B2); (have e0 := C2.c0); (have e1 := C2.c1); (have e2 := C2.c2); (have e3 := C2.c3); (have e4 := C2.c4); (have e5 := C2.c5); (have eh := C2.hi))
  · go_ret
    exact ⟨rfl, HBA.out.trans (B2.mono HBA.out.size)⟩
  rename_i hx0
  have hx2 : (n : Int) + (tot f n : Int) ≤ 1048576 := by rcases hx with h | ⟨h1, h2, h3⟩; omega; omega
  have hn : n ≤ 1048576 := by omega
  have HL : Hid (∀ i, i < n → (f i).length ≤ 1048576) := fun i hi => by have := tot_le f hi; omega
  have HTF : Hid (1 + tot f n ≤ 9000000) := by show _ ≤ _; omega
  have B_0 : Below w.heap.size w w2 := HBA.out.trans (B2.mono HBA.out.size)
  have HT : Hid (∀ w', Below w.heap.size w w' → Calls Try.prog 30 #[.agg #[.int .i64 s, .int .i64 y, .int .i64 l, .int .i64 q, .slice ad n cp, .int .i64 c]] w' fun r w'' => ∃ g, r = .returned (.agg #[.int .i64 s, .int .i64 y, .int .i64 l, .int .i64 q, .slice (some ⟨g, 0, none⟩) n n, .int .i64 c]) ∧ w'.heap.size ≤ g ∧ (∃ p, Cp g n n f p w'') ∧ Below w'.heap.size w' w'') := fun w' b => toC s y l q c _ n f w' (HRR.out w' b) hn HL.out
  obtain ⟨A0, A1, A2, A3, A5, n', L', H, OO, hn64, hL8, hM, hP⟩ := cr_both s y l q c a1 n f hn HL.out
  have HM := Hid.mk hM
  have HP := Hid.mk hP
  have hn' : n' ≤ 1048576 := by omega
  have HL' : Hid (∀ x, x < n' → (L' x).length ≤ 1048576) := fun x hx => by have := hL8 x hx; omega
  have HTL : Hid (1 + tot L' n' ≤ 9000000) := by show _ ≤ _; have := tot_bd L' n' 8 hL8; omega
  clear hM hP hL8 hx hx2 h28 mn mf HRR HBA w1
  cases H
  all_goals
    have A_0 := C2
    have ZS0 : Hid (w.heap.size + 1 ≤ w2.heap.size) := by have h1 := B2.size; have h2 := HW1.out; exact (by rw [← h2]; exact h1)
    clear C2 B2 HCA
    go_wp2_with (first | (go_at_call 30; (with_reducible show Calls Try.prog 30 _ w2 _); refine (HT.out w2 B_0).mono ?_; rintro e w3 ⟨g3, rfl, hg3, ⟨p3, P3⟩, B3⟩) | (go_at_call 32; refine (HM.out w3 _ P3.rowsC).mono ?_; rintro e w4 ⟨b0, k0, rfl, X0, B4⟩; (have Q4 := (A_0.next B3).next B4); (have r0 := Q4.c0); (have r1 := Q4.c1); (have r2 := Q4.c2); (have r3 := Q4.c3); (have r4 := Q4.c4); (have r5 := Q4.c5); (have rh := Q4.hi)))
    have B24 : Below w2.heap.size w2 w4 := B3.trans (B4.mono B3.size)
    have ZS1 : Hid (w2.heap.size ≤ w3.heap.size) := B3.size
    have ZS2 : Hid (w3.heap.size ≤ w4.heap.size) := B4.size
    have B_1 := B_0.trans ((B24).mono B_0.size)
    have A_1 := A_0.next (B24)
    clear B_0 A_0
    have M_1 := X0
    have B_2 := B_1.trans ((alloc_b (o := (.cells #[.int .i64 A0, .int .i64 A1, .int .i64 A2, .int .i64 A3, .slice b0 n' k0, .int .i64 A5] 42))).mono B_1.size)
    have A_2 := A_1.next (alloc_b (o := (.cells #[.int .i64 A0, .int .i64 A1, .int .i64 A2, .int .i64 A3, .slice b0 n' k0, .int .i64 A5] 42)))
    have M_2 := M_1.next (alloc_b (o := (.cells #[.int .i64 A0, .int .i64 A1, .int .i64 A2, .int .i64 A3, .slice b0 n' k0, .int .i64 A5] 42)))
    clear B_1 A_1 M_1
    have C_2 := C6.new w4 42 (.int .i64 A0) (.int .i64 A1) (.int .i64 A2) (.int .i64 A3) (.slice b0 n' k0) (.int .i64 A5)
    obtain ⟨W5, hW5⟩ : ∃ W, w4.alloc (.cells #[.int .i64 A0, .int .i64 A1, .int .i64 A2, .int .i64 A3, .slice b0 n' k0, .int .i64 A5] 42) = W := ⟨_, rfl⟩
    rw [hW5] at B_2 A_2 M_2 C_2 ⊢
    have ZS3 : Hid (W5.heap.size = w4.heap.size + 1) := by show _ = _; rw [← hW5, World.size_alloc]
    clear hW5 P3 B3 B4 B24 X0 Q4 hg3 e0 e1 e2 e3 e4 e5 eh r0 r1 r2 r3 r4 r5 rh
    skip
    have QA := A_2
    have e0 := QA.c0
    have e1 := QA.c1
    have e2 := QA.c2
    have e3 := QA.c3
    have e4 := QA.c4
    have e5 := QA.c5
    have eh := QA.hi
    go_wp2_with (first | (go_at_call 30; (with_reducible show Calls Try.prog 30 _ W5 _); refine (HT.out W5 B_2).mono ?_; rintro e w6 ⟨g6, rfl, hg6, ⟨p6, P6⟩, B6⟩; skip) | (go_at_call 33; refine (HP.out (w6.alloc (.cells #[.int .i64 s, .int .i64 y, .int .i64 l, .int .i64 q, .slice (some ⟨g6, 0, none⟩) n n, .int .i64 c] 42)) _ (P6.next alloc_b).ax.arows).mono ?_; rintro e w8 ⟨b1, k1, rfl, X1, B8⟩; (have Q8 := (C_2.next B6 |>.next (alloc_b (o := (.cells #[.int .i64 s, .int .i64 y, .int .i64 l, .int .i64 q, .slice (some ⟨g6, 0, none⟩) n n, .int .i64 c] 42)))).next B8); (have r0 := Q8.c0); (have r1 := Q8.c1); (have r2 := Q8.c2); (have r3 := Q8.c3); (have r4 := Q8.c4); (have r5 := Q8.c5); (have rh := Q8.hi)))
    have ZS4 : Hid (W5.heap.size ≤ w6.heap.size) := B6.size
    have ZS5 : Hid (g6 < w6.heap.size) := P6.hz
    have ZS6 : Hid (W5.heap.size ≤ g6) := hg6
    have B_3 := B_2.trans ((B6).mono B_2.size)
    have A_3 := A_2.next (B6)
    have M_3 := M_2.next (B6)
    have C_3 := C_2.next (B6)
    clear B_2 A_2 M_2 C_2
    have P_3 := P6.ax
    have B_4 := B_3.trans ((alloc_b (o := (.cells #[.int .i64 s, .int .i64 y, .int .i64 l, .int .i64 q, .slice (some ⟨g6, 0, none⟩) n n, .int .i64 c] 42))).mono B_3.size)
    have A_4 := A_3.next (alloc_b (o := (.cells #[.int .i64 s, .int .i64 y, .int .i64 l, .int .i64 q, .slice (some ⟨g6, 0, none⟩) n n, .int .i64 c] 42)))
    have M_4 := M_3.next (alloc_b (o := (.cells #[.int .i64 s, .int .i64 y, .int .i64 l, .int .i64 q, .slice (some ⟨g6, 0, none⟩) n n, .int .i64 c] 42)))
    have C_4 := C_3.next (alloc_b (o := (.cells #[.int .i64 s, .int .i64 y, .int .i64 l, .int .i64 q, .slice (some ⟨g6, 0, none⟩) n n, .int .i64 c] 42)))
    have P_4 := P_3.next (alloc_b (o := (.cells #[.int .i64 s, .int .i64 y, .int .i64 l, .int .i64 q, .slice (some ⟨g6, 0, none⟩) n n, .int .i64 c] 42)))
    clear B_3 A_3 M_3 C_3 P_3
    have D_4 := C6.new w6 42 (.int .i64 s) (.int .i64 y) (.int .i64 l) (.int .i64 q) (.slice (some ⟨g6, 0, none⟩) n n) (.int .i64 c)
    obtain ⟨W7, hW7⟩ : ∃ W, w6.alloc (.cells #[.int .i64 s, .int .i64 y, .int .i64 l, .int .i64 q, .slice (some ⟨g6, 0, none⟩) n n, .int .i64 c] 42) = W := ⟨_, rfl⟩
    rw [hW7] at B_4 A_4 M_4 C_4 P_4 D_4 B8 X1
    have ZS7 : Hid (W7.heap.size = w6.heap.size + 1) := by show _ = _; rw [← hW7, World.size_alloc]
    clear hW7 B6 P6 QA hg6 e0 e1 e2 e3 e4 e5 eh
    have ZS8 : Hid (W7.heap.size ≤ w8.heap.size) := B8.size
    have B_5 := B_4.trans ((B8).mono B_4.size)
    have A_5 := A_4.next (B8)
    have M_5 := M_4.next (B8)
    have C_5 := C_4.next (B8)
    have P_5 := P_4.next (B8)
    have D_5 := D_4.next (B8)
    clear B_4 A_4 M_4 C_4 P_4 D_4
    have N_5 := X1
    have B_6 := B_5.trans ((alloc_b (o := (.cells #[.int .i64 A0, .int .i64 A1, .int .i64 A2, .int .i64 A3, .slice b1 n' k1, .int .i64 A5] 42))).mono B_5.size)
    have A_6 := A_5.next (alloc_b (o := (.cells #[.int .i64 A0, .int .i64 A1, .int .i64 A2, .int .i64 A3, .slice b1 n' k1, .int .i64 A5] 42)))
    have M_6 := M_5.next (alloc_b (o := (.cells #[.int .i64 A0, .int .i64 A1, .int .i64 A2, .int .i64 A3, .slice b1 n' k1, .int .i64 A5] 42)))
    have C_6 := C_5.next (alloc_b (o := (.cells #[.int .i64 A0, .int .i64 A1, .int .i64 A2, .int .i64 A3, .slice b1 n' k1, .int .i64 A5] 42)))
    have P_6 := P_5.next (alloc_b (o := (.cells #[.int .i64 A0, .int .i64 A1, .int .i64 A2, .int .i64 A3, .slice b1 n' k1, .int .i64 A5] 42)))
    have D_6 := D_5.next (alloc_b (o := (.cells #[.int .i64 A0, .int .i64 A1, .int .i64 A2, .int .i64 A3, .slice b1 n' k1, .int .i64 A5] 42)))
    have N_6 := N_5.next (alloc_b (o := (.cells #[.int .i64 A0, .int .i64 A1, .int .i64 A2, .int .i64 A3, .slice b1 n' k1, .int .i64 A5] 42)))
    clear B_5 A_5 M_5 C_5 P_5 D_5 N_5
    have E_6 := C6.new w8 42 (.int .i64 A0) (.int .i64 A1) (.int .i64 A2) (.int .i64 A3) (.slice b1 n' k1) (.int .i64 A5)
    obtain ⟨W9, hW9⟩ : ∃ W, w8.alloc (.cells #[.int .i64 A0, .int .i64 A1, .int .i64 A2, .int .i64 A3, .slice b1 n' k1, .int .i64 A5] 42) = W := ⟨_, rfl⟩
    rw [hW9] at B_6 A_6 M_6 C_6 P_6 D_6 N_6 E_6 ⊢
    have ZS9 : Hid (W9.heap.size = w8.heap.size + 1) := by show _ = _; rw [← hW9, World.size_alloc]
    clear hW9 B8 X1 Q8 r0 r1 r2 r3 r4 r5 rh
    have r0 := C_6.c0
    have r1 := C_6.c1
    have r2 := C_6.c2
    have r3 := C_6.c3
    have r4 := C_6.c4
    have r5 := C_6.c5
    have rh := C_6.hi
    have e0 := E_6.c0
    have e1 := E_6.c1
    have e2 := E_6.c2
    have e3 := E_6.c3
    have e4 := E_6.c4
    have e5 := E_6.c5
    have eh := E_6.hi
    go_wp2_with (go_at_call 25; (with_reducible show Calls Try.prog 25 _ W9 _); refine (eqcache A0 A1 A2 A3 A5 (.slice b1 n' k1) (.slice b0 n' k0) n' L' W9 N_6.arows M_6.arows hn' HL'.out).mono ?_; rintro e w10 ⟨rfl, B10⟩)
    clear r0 r1 r2 r3 r4 r5 rh e0 e1 e2 e3 e4 e5 eh
    have ZS10 : Hid (W9.heap.size ≤ w10.heap.size) := B10.size
    have B_7 := B_6.trans ((B10).mono B_6.size)
    have A_7 := A_6.next (B10)
    have M_7 := M_6.next (B10)
    have C_7 := C_6.next (B10)
    have P_7 := P_6.next (B10)
    have D_7 := D_6.next (B10)
    have N_7 := N_6.next (B10)
    have E_7 := E_6.next (B10)
    clear B_6 A_6 M_6 C_6 P_6 D_6 N_6 E_6
    clear B10
    go_wp2
    generalize hWW : w10.drew = WX
    have B_8 := B_7.trans ((below_drew (Below.refl w10.heap.size w10)).mono B_7.size)
    have A_8 := A_7.next (below_drew (Below.refl w10.heap.size w10))
    have M_8 := M_7.next (below_drew (Below.refl w10.heap.size w10))
    have C_8 := C_7.next (below_drew (Below.refl w10.heap.size w10))
    have P_8 := P_7.next (below_drew (Below.refl w10.heap.size w10))
    have D_8 := D_7.next (below_drew (Below.refl w10.heap.size w10))
    have N_8 := N_7.next (below_drew (Below.refl w10.heap.size w10))
    have E_8 := E_7.next (below_drew (Below.refl w10.heap.size w10))
    clear B_7 A_7 M_7 C_7 P_7 D_7 N_7 E_7
    rw [hWW] at B_8 A_8 M_8 C_8 P_8 D_8 N_8 E_8
    have ZS11 : Hid (w10.heap.size ≤ WX.heap.size) := by rw [← hWW]; exact Nat.le_refl _
    refine wp_region_held_drew (S := fun v => Below WX.heap.size WX v) (by kernel_rfl) (by rw [hWW]; exact Below.refl _ _) (fun hH => ?_)
    rw [hWW] at hH ⊢
    clear hWW
    refine wpAnyH_take (i := 0) (oi := { dst := some 55, op := Op.load 42 (Operand.tmp 9), type := 42, pos := "exact.go:4944", after := #[], guard := none }) (v := .agg #[.int .i64 s, .int .i64 y, .int .i64 l, .int .i64 q, .slice (some ⟨g6, 0, none⟩) n n, .int .i64 c]) rfl (by kernel_rfl) (by kernel_rfl) (by kernel_rfl) (fun _ _ _ h => h) (Or.inl ⟨by rfl, fun w0 hSw => by ((have e0 := cell_nx D_8.c0 hSw); (have e1 := cell_nx D_8.c1 hSw); (have e2 := cell_nx D_8.c2 hSw); (have e3 := cell_nx D_8.c3 hSw); (have e4 := cell_nx D_8.c4 hSw); (have e5 := cell_nx D_8.c5 hSw); go_simp)⟩) hH ?_
    simp only [Act.put, List.setIfInBounds_toArray, List.set_cons_zero, List.set_cons_succ]
    refine wpAnyH_take (i := 1) (oi := { dst := some 56, op := Op.load 48 (Operand.tmp 2), type := 48, pos := "exact.go:4944", after := #[], guard := none }) (v := .agg #[.int .i64 s, .int .i64 y, .int .i64 l, .int .i64 q, .slice ad n cp, .int .i64 c]) rfl (by kernel_rfl) (by kernel_rfl) (by kernel_rfl) (fun _ _ _ h => h) (Or.inl ⟨by rfl, fun w0 hSw => by ((have e0 := cell_nx A_8.c0 hSw); (have e1 := cell_nx A_8.c1 hSw); (have e2 := cell_nx A_8.c2 hSw); (have e3 := cell_nx A_8.c3 hSw); (have e4 := cell_nx A_8.c4 hSw); (have e5 := cell_nx A_8.c5 hSw); go_simp)⟩) hH ?_
    simp only [Act.put, List.setIfInBounds_toArray, List.set_cons_zero, List.set_cons_succ]
    refine wpAnyH_ready (rs := [2]) (by kernel_rfl) (by simp) ?_
    refine (AllReadyH.cons (o := { dst := some 57, op := Op.call { callee := Callee.value (Operand.func 30), args := #[Operand.tmp 56], argTypes := #[48] }, type := 42, pos := "exact.go:4944", after := #[{ on := 1, ground := Ground.data }], guard := none }) rfl (fun K hK => ?_) AllReadyH.nil)
    refine step_callC 30 #[.agg #[.int .i64 s, .int .i64 y, .int .i64 l, .int .i64 q, .slice ad n cp, .int .i64 c]] (fun z v w' => ∃ g, z = .agg #[.int .i64 s, .int .i64 y, .int .i64 l, .int .i64 q, .slice (some ⟨g, 0, none⟩) n n, .int .i64 c] ∧ v.heap.size ≤ g ∧ (∃ p, Cp g n n f p w') ∧ Below v.heap.size v w') (by rfl) (by go_simp) ((HT.out _ (B_8.trans (hH.mono B_8.size))).mono fun e w' ⟨g, h1, h2, h3, h4⟩ => ⟨_, h1, g, rfl, h2, h3, h4⟩) ?_
    rintro zT wT ⟨gT, rfl, _, ⟨pT, PT⟩, BT⟩
    simp only [Act.put, List.setIfInBounds_toArray, List.set_cons_zero, List.set_cons_succ]
    refine hK.out _ _ (hH.trans (BT.mono hH.size)) (fun hH' => ?_)
    clear hK K
    have PX := (P_8.next (hH.trans (BT.mono hH.size)))
    replace hH := hH'
    clear hH' 
    refine wpAnyH_ready (rs := [3]) (by kernel_rfl) (by simp) ?_
    refine (AllReadyH.cons (o := { dst := some 58, op := Op.call { callee := Callee.value (Operand.func 25), args := #[Operand.tmp 55, Operand.tmp 57], argTypes := #[42, 42] }, type := 4, pos := "exact.go:4944", after := #[{ on := 0, ground := Ground.data }, { on := 2, ground := Ground.data }, { on := 2, ground := Ground.chain }], guard := none }) rfl (fun K hK => ?_) AllReadyH.nil)
    refine step_callC 25 #[.agg #[.int .i64 s, .int .i64 y, .int .i64 l, .int .i64 q, .slice (some ⟨g6, 0, none⟩) n n, .int .i64 c], .agg #[.int .i64 s, .int .i64 y, .int .i64 l, .int .i64 q, .slice (some ⟨gT, 0, none⟩) n n, .int .i64 c]] (fun z v w' => z = .bool true ∧ Below v.heap.size v w') (by rfl) (by go_simp) ((eqcache s y l q c _ _ n f _ PX.arows PT.ax.arows hn HL.out).mono fun e w' ⟨h1, h2⟩ => ⟨_, h1, rfl, h2⟩) ?_
    rintro zE wE ⟨rfl, BE⟩
    simp only [Act.put, List.setIfInBounds_toArray, List.set_cons_zero, List.set_cons_succ]
    refine hK.out _ _ (hH.trans (BE.mono hH.size)) (fun hH' => ?_)
    clear hK K
    replace hH := hH'
    clear hH' 
    refine wpAnyH_take (i := 4) (oi := { dst := some 59, op := Op.unOp UnOp.not 4 (Operand.tmp 58), type := 4, pos := "exact.go:4944", after := #[{ on := 3, ground := Ground.data }], guard := none }) (v := .bool false) rfl (by kernel_rfl) (by kernel_rfl) (by kernel_rfl) (fun _ _ _ h => h) (Or.inl ⟨by rfl, fun w0 hSw => by (go_simp)⟩) hH ?_
    simp only [Act.put, List.setIfInBounds_toArray, List.set_cons_zero, List.set_cons_succ]
    refine wpAnyH_done (by kernel_rfl) ?_ _
    clear PT PX BT BE
    have ZS12 : Hid (WX.heap.size ≤ wE.heap.size) := hH.size
    have B_9 := B_8.trans ((hH).mono B_8.size)
    have A_9 := A_8.next (hH)
    have M_9 := M_8.next (hH)
    have C_9 := C_8.next (hH)
    have P_9 := P_8.next (hH)
    have D_9 := D_8.next (hH)
    have N_9 := N_8.next (hH)
    have E_9 := E_8.next (hH)
    clear B_8 A_8 M_8 C_8 P_8 D_8 N_8 E_8
    clear hH
    have h26 := markcache s y l q c P_9 (by have z0 := ZS0.out; have z1 := ZS1.out; have z2 := ZS2.out; have z3 := ZS3.out; have z4 := ZS4.out; have z5 := ZS5.out; have z6 := ZS6.out; have z7 := ZS7.out; have z8 := ZS8.out; have z9 := ZS9.out; have z10 := ZS10.out; have z11 := ZS11.out; have z12 := ZS12.out; omega) hn 1 HTF.out HL.out
    have hs0 : ¬ ((1 + tot f n : Nat) : Int) < 0 := by omega
    generalize ((1 + tot f n : Nat) : Int) = sx at h26 hs0
    have d0 := D_9.c0
    have d1 := D_9.c1
    have d2 := D_9.c2
    have d3 := D_9.c3
    have d4 := D_9.c4
    have d5 := D_9.c5
    have dh := D_9.hi
    go_wp2_with (go_at_call 26; refine h26.mono ?_; rintro e w13 ⟨rfl, M6, T6⟩; (have QC := C_9.block (T6.block _ C_9.hi (Or.inl (by have z0 := ZS0.out; have z1 := ZS1.out; have z2 := ZS2.out; have z3 := ZS3.out; have z4 := ZS4.out; have z5 := ZS5.out; have z6 := ZS6.out; have z7 := ZS7.out; have z8 := ZS8.out; have z9 := ZS9.out; have z10 := ZS10.out; have z11 := ZS11.out; have z12 := ZS12.out; omega))) T6.size); (have r0 := QC.c0); (have r1 := QC.c1); (have r2 := QC.c2); (have r3 := QC.c3); (have r4 := QC.c4); (have r5 := QC.c5); (have rh := QC.hi); (have QE := E_9.block (T6.block _ E_9.hi (Or.inr (by have z0 := ZS0.out; have z1 := ZS1.out; have z2 := ZS2.out; have z3 := ZS3.out; have z4 := ZS4.out; have z5 := ZS5.out; have z6 := ZS6.out; have z7 := ZS7.out; have z8 := ZS8.out; have z9 := ZS9.out; have z10 := ZS10.out; have z11 := ZS11.out; have z12 := ZS12.out; omega))) T6.size); (have e0 := QE.c0); (have e1 := QE.c1); (have e2 := QE.c2); (have e3 := QE.c3); (have e4 := QE.c4); (have e5 := QE.c5); (have eh := QE.hi))
    clear h26 M6 QC QE d0 d1 d2 d3 d4 d5 dh r0 r1 r2 r3 r4 r5 rh e0 e1 e2 e3 e4 e5 eh
    clear D_9 P_9
    have ZS13 : Hid (wE.heap.size ≤ w13.heap.size) := T6.size
    have B_10 := B_9.trans (((T6).below (by have z0 := ZS0.out; have z1 := ZS1.out; have z2 := ZS2.out; have z3 := ZS3.out; have z4 := ZS4.out; have z5 := ZS5.out; have z6 := ZS6.out; have z7 := ZS7.out; have z8 := ZS8.out; have z9 := ZS9.out; have z10 := ZS10.out; have z11 := ZS11.out; have z12 := ZS12.out; have z13 := ZS13.out; omega)).mono (by have z0 := ZS0.out; have z1 := ZS1.out; have z2 := ZS2.out; have z3 := ZS3.out; have z4 := ZS4.out; have z5 := ZS5.out; have z6 := ZS6.out; have z7 := ZS7.out; have z8 := ZS8.out; have z9 := ZS9.out; have z10 := ZS10.out; have z11 := ZS11.out; have z12 := ZS12.out; have z13 := ZS13.out; omega))
    have A_10 := A_9.block ((T6).block _ A_9.hi (Or.inl (by have z0 := ZS0.out; have z1 := ZS1.out; have z2 := ZS2.out; have z3 := ZS3.out; have z4 := ZS4.out; have z5 := ZS5.out; have z6 := ZS6.out; have z7 := ZS7.out; have z8 := ZS8.out; have z9 := ZS9.out; have z10 := ZS10.out; have z11 := ZS11.out; have z12 := ZS12.out; have z13 := ZS13.out; omega))) (T6).size
    have M_10 := M_9.btw (T6) (Or.inl (by have z0 := ZS0.out; have z1 := ZS1.out; have z2 := ZS2.out; have z3 := ZS3.out; have z4 := ZS4.out; have z5 := ZS5.out; have z6 := ZS6.out; have z7 := ZS7.out; have z8 := ZS8.out; have z9 := ZS9.out; have z10 := ZS10.out; have z11 := ZS11.out; have z12 := ZS12.out; have z13 := ZS13.out; omega))
    have C_10 := C_9.block ((T6).block _ C_9.hi (Or.inl (by have z0 := ZS0.out; have z1 := ZS1.out; have z2 := ZS2.out; have z3 := ZS3.out; have z4 := ZS4.out; have z5 := ZS5.out; have z6 := ZS6.out; have z7 := ZS7.out; have z8 := ZS8.out; have z9 := ZS9.out; have z10 := ZS10.out; have z11 := ZS11.out; have z12 := ZS12.out; have z13 := ZS13.out; omega))) (T6).size
    have N_10 := N_9.btw (T6) (Or.inr (by have z0 := ZS0.out; have z1 := ZS1.out; have z2 := ZS2.out; have z3 := ZS3.out; have z4 := ZS4.out; have z5 := ZS5.out; have z6 := ZS6.out; have z7 := ZS7.out; have z8 := ZS8.out; have z9 := ZS9.out; have z10 := ZS10.out; have z11 := ZS11.out; have z12 := ZS12.out; have z13 := ZS13.out; omega))
    have E_10 := E_9.block ((T6).block _ E_9.hi (Or.inr (by have z0 := ZS0.out; have z1 := ZS1.out; have z2 := ZS2.out; have z3 := ZS3.out; have z4 := ZS4.out; have z5 := ZS5.out; have z6 := ZS6.out; have z7 := ZS7.out; have z8 := ZS8.out; have z9 := ZS9.out; have z10 := ZS10.out; have z11 := ZS11.out; have z12 := ZS12.out; have z13 := ZS13.out; omega))) (T6).size
    clear B_9 A_9 M_9 C_9 N_9 E_9
    clear T6
    go_wp2_with (go_at_call 25; (with_reducible show Calls Try.prog 25 _ w13 _); refine (eqcache A0 A1 A2 A3 A5 (.slice b1 n' k1) (.slice b0 n' k0) n' L' w13 N_10.arows M_10.arows hn' HL'.out).mono ?_; rintro e w14 ⟨rfl, B14⟩; (have QE := E_10.next B14); (have e0 := QE.c0); (have e1 := QE.c1); (have e2 := QE.c2); (have e3 := QE.c3); (have e4 := QE.c4); (have e5 := QE.c5); (have eh := QE.hi))
    have ZS14 : Hid (w13.heap.size ≤ w14.heap.size) := B14.size
    have B_11 := B_10.trans ((B14).mono B_10.size)
    have A_11 := A_10.next (B14)
    have M_11 := M_10.next (B14)
    have C_11 := C_10.next (B14)
    have N_11 := N_10.next (B14)
    have E_11 := E_10.next (B14)
    clear B_10 A_10 M_10 C_10 N_10 E_10
    clear B14
    have h26 := markcache A0 A1 A2 A3 A5 N_11 (by have z0 := ZS0.out; have z1 := ZS1.out; have z2 := ZS2.out; have z3 := ZS3.out; have z4 := ZS4.out; have z5 := ZS5.out; have z6 := ZS6.out; have z7 := ZS7.out; have z8 := ZS8.out; have z9 := ZS9.out; have z10 := ZS10.out; have z11 := ZS11.out; have z12 := ZS12.out; have z13 := ZS13.out; have z14 := ZS14.out; omega) hn' 1 HTL.out HL'.out
    have HH : Hid (∀ v, Mx W7.heap.size w8.heap.size v (.slice b1 n' k1) n' L' 1 → Calls Try.prog 27 #[.agg #[.int .i64 A0, .int .i64 A1, .int .i64 A2, .int .i64 A3, .slice b1 n' k1, .int .i64 A5], .int .i64 1] v fun r w' => r = .returned (.int .i64 ((1 + tot L' n' : Nat) : Int)) ∧ Below v.heap.size v w') := fun v M => heldcache A0 A1 A2 A3 A5 1 M hn' HTL.out HL'.out
    have hs1 : ¬ ((1 + tot L' n' : Nat) : Int) < 0 := by omega
    generalize ((1 + tot L' n' : Nat) : Int) = sy at h26 HH hs1
    go_wp2_with (go_at_call 26; refine h26.mono ?_; rintro e w17 ⟨rfl, M17, T17⟩; (have QE2 := E_11.block (T17.block _ E_11.hi (Or.inr (by have z0 := ZS0.out; have z1 := ZS1.out; have z2 := ZS2.out; have z3 := ZS3.out; have z4 := ZS4.out; have z5 := ZS5.out; have z6 := ZS6.out; have z7 := ZS7.out; have z8 := ZS8.out; have z9 := ZS9.out; have z10 := ZS10.out; have z11 := ZS11.out; have z12 := ZS12.out; have z13 := ZS13.out; have z14 := ZS14.out; omega))) T17.size); (have r0 := QE2.c0); (have r1 := QE2.c1); (have r2 := QE2.c2); (have r3 := QE2.c3); (have r4 := QE2.c4); (have r5 := QE2.c5); (have rh := QE2.hi))
    clear h26 QE QE2 e0 e1 e2 e3 e4 e5 eh r0 r1 r2 r3 r4 r5 rh
    have ZS15 : Hid (w14.heap.size ≤ w17.heap.size) := T17.size
    have B_12 := B_11.trans (((T17).below (by have z0 := ZS0.out; have z1 := ZS1.out; have z2 := ZS2.out; have z3 := ZS3.out; have z4 := ZS4.out; have z5 := ZS5.out; have z6 := ZS6.out; have z7 := ZS7.out; have z8 := ZS8.out; have z9 := ZS9.out; have z10 := ZS10.out; have z11 := ZS11.out; have z12 := ZS12.out; have z13 := ZS13.out; have z14 := ZS14.out; have z15 := ZS15.out; omega)).mono (by have z0 := ZS0.out; have z1 := ZS1.out; have z2 := ZS2.out; have z3 := ZS3.out; have z4 := ZS4.out; have z5 := ZS5.out; have z6 := ZS6.out; have z7 := ZS7.out; have z8 := ZS8.out; have z9 := ZS9.out; have z10 := ZS10.out; have z11 := ZS11.out; have z12 := ZS12.out; have z13 := ZS13.out; have z14 := ZS14.out; have z15 := ZS15.out; omega))
    have A_12 := A_11.block ((T17).block _ A_11.hi (Or.inl (by have z0 := ZS0.out; have z1 := ZS1.out; have z2 := ZS2.out; have z3 := ZS3.out; have z4 := ZS4.out; have z5 := ZS5.out; have z6 := ZS6.out; have z7 := ZS7.out; have z8 := ZS8.out; have z9 := ZS9.out; have z10 := ZS10.out; have z11 := ZS11.out; have z12 := ZS12.out; have z13 := ZS13.out; have z14 := ZS14.out; have z15 := ZS15.out; omega))) (T17).size
    have M_12 := M_11.btw (T17) (Or.inl (by have z0 := ZS0.out; have z1 := ZS1.out; have z2 := ZS2.out; have z3 := ZS3.out; have z4 := ZS4.out; have z5 := ZS5.out; have z6 := ZS6.out; have z7 := ZS7.out; have z8 := ZS8.out; have z9 := ZS9.out; have z10 := ZS10.out; have z11 := ZS11.out; have z12 := ZS12.out; have z13 := ZS13.out; have z14 := ZS14.out; have z15 := ZS15.out; omega))
    have C_12 := C_11.block ((T17).block _ C_11.hi (Or.inl (by have z0 := ZS0.out; have z1 := ZS1.out; have z2 := ZS2.out; have z3 := ZS3.out; have z4 := ZS4.out; have z5 := ZS5.out; have z6 := ZS6.out; have z7 := ZS7.out; have z8 := ZS8.out; have z9 := ZS9.out; have z10 := ZS10.out; have z11 := ZS11.out; have z12 := ZS12.out; have z13 := ZS13.out; have z14 := ZS14.out; have z15 := ZS15.out; omega))) (T17).size
    have N_12 := M17
    have E_12 := E_11.block ((T17).block _ E_11.hi (Or.inr (by have z0 := ZS0.out; have z1 := ZS1.out; have z2 := ZS2.out; have z3 := ZS3.out; have z4 := ZS4.out; have z5 := ZS5.out; have z6 := ZS6.out; have z7 := ZS7.out; have z8 := ZS8.out; have z9 := ZS9.out; have z10 := ZS10.out; have z11 := ZS11.out; have z12 := ZS12.out; have z13 := ZS13.out; have z14 := ZS14.out; have z15 := ZS15.out; omega))) (T17).size
    clear B_11 A_11 M_11 C_11 N_11 E_11
    clear T17 M17
    go_wp2_with (go_at_call 27; refine (HH.out w17 N_12).mono ?_; rintro e w19 ⟨rfl, B19⟩; (have QA := A_12.next B19); (have e0 := QA.c0); (have e1 := QA.c1); (have e2 := QA.c2); (have e3 := QA.c3); (have e4 := QA.c4); (have e5 := QA.c5); (have eh := QA.hi))
    have B_13 := B_12.trans ((B19).mono B_12.size)
    have A_13 := A_12.next (B19)
    have M_13 := M_12.next (B19)
    have C_13 := C_12.next (B19)
    have N_13 := N_12.next (B19)
    have E_13 := E_12.next (B19)
    clear B_12 A_12 M_12 C_12 N_12 E_12
    clear B19
    go_wp2_with (first | (go_at_call 30; (with_reducible show Calls Try.prog 30 _ w19 _); refine (HT.out w19 B_13).mono ?_; rintro e w20 ⟨g20, rfl, hg20, ⟨p20, P20⟩, B20⟩) | (go_at_call 33; refine (HP.out w20 _ P20.ax.arows).mono ?_; rintro e w21 ⟨b2, k2, rfl, X2, B21⟩; (have QC := (C_13.next B20).next B21); (have r0 := QC.c0); (have r1 := QC.c1); (have r2 := QC.c2); (have r3 := QC.c3); (have r4 := QC.c4); (have r5 := QC.c5); (have rh := QC.hi)))
    clear QA e0 e1 e2 e3 e4 e5 eh
    have B1921 : Below w19.heap.size w19 w21 := B20.trans (B21.mono B20.size)
    have B_14 := B_13.trans ((B1921).mono B_13.size)
    have A_14 := A_13.next (B1921)
    have M_14 := M_13.next (B1921)
    have C_14 := C_13.next (B1921)
    have N_14 := N_13.next (B1921)
    have E_14 := E_13.next (B1921)
    clear B_13 A_13 M_13 C_13 N_13 E_13
    have R_14 := X2
    have B_15 := B_14.trans ((alloc_b (o := (.cells #[.int .i64 A0, .int .i64 A1, .int .i64 A2, .int .i64 A3, .slice b2 n' k2, .int .i64 A5] 42))).mono B_14.size)
    have A_15 := A_14.next (alloc_b (o := (.cells #[.int .i64 A0, .int .i64 A1, .int .i64 A2, .int .i64 A3, .slice b2 n' k2, .int .i64 A5] 42)))
    have M_15 := M_14.next (alloc_b (o := (.cells #[.int .i64 A0, .int .i64 A1, .int .i64 A2, .int .i64 A3, .slice b2 n' k2, .int .i64 A5] 42)))
    have C_15 := C_14.next (alloc_b (o := (.cells #[.int .i64 A0, .int .i64 A1, .int .i64 A2, .int .i64 A3, .slice b2 n' k2, .int .i64 A5] 42)))
    have N_15 := N_14.next (alloc_b (o := (.cells #[.int .i64 A0, .int .i64 A1, .int .i64 A2, .int .i64 A3, .slice b2 n' k2, .int .i64 A5] 42)))
    have E_15 := E_14.next (alloc_b (o := (.cells #[.int .i64 A0, .int .i64 A1, .int .i64 A2, .int .i64 A3, .slice b2 n' k2, .int .i64 A5] 42)))
    have R_15 := R_14.next (alloc_b (o := (.cells #[.int .i64 A0, .int .i64 A1, .int .i64 A2, .int .i64 A3, .slice b2 n' k2, .int .i64 A5] 42)))
    clear B_14 A_14 M_14 C_14 N_14 E_14 R_14
    obtain ⟨W22, hW22⟩ : ∃ W, w21.alloc (.cells #[.int .i64 A0, .int .i64 A1, .int .i64 A2, .int .i64 A3, .slice b2 n' k2, .int .i64 A5] 42) = W := ⟨_, rfl⟩
    rw [hW22] at B_15 A_15 M_15 C_15 N_15 E_15 R_15 ⊢
    clear hW22 B1921 B20 B21 P20 X2 QC hg20 r0 r1 r2 r3 r4 r5 rh
    go_wp2_with (go_at_call 25; (with_reducible show Calls Try.prog 25 _ W22 _); refine (eqcache A0 A1 A2 A3 A5 (.slice b2 n' k2) (.slice b0 n' k0) n' L' W22 R_15.arows M_15.arows hn' HL'.out).mono ?_; rintro e w23 ⟨rfl, B23⟩; (have QE := E_15.next B23); (have e0 := QE.c0); (have e1 := QE.c1); (have e2 := QE.c2); (have e3 := QE.c3); (have e4 := QE.c4); (have e5 := QE.c5); (have eh := QE.hi))
    have B_16 := B_15.trans ((B23).mono B_15.size)
    have A_16 := A_15.next (B23)
    have M_16 := M_15.next (B23)
    have C_16 := C_15.next (B23)
    have N_16 := N_15.next (B23)
    have E_16 := E_15.next (B23)
    have R_16 := R_15.next (B23)
    clear B_15 A_15 M_15 C_15 N_15 E_15 R_15
    go_wp2_with (go_at_call 27; refine (HH.out w23 N_16).mono ?_; rintro e w24 ⟨rfl, B24⟩)
    go_ret
    exact ⟨rfl, B_16.trans (B24.mono B_16.size)⟩

set_option maxRecDepth 100000 in
theorem lifted (os : Os) (started : os.Started) (H : Type) (enc : TypeId × Value → H) :
    ReturnsInHanded {} Try.checked os 8 .any (Rows.fnExactCacheReadSpec.pre6 enc Try.prog Try.f8 Rows.fnExactCacheReadRow.domain false) (Rows.fnExactCacheReadSpec.post enc Try.prog Try.f8 false true false false) := by
  refine returnsInHanded_of_change (C := Try.checked) own started (by kernel_rfl) Try.func8
    (ChangeSpec.witness6 (enc := enc) (C := Try.checked) false ⟨#[], #[.agg #[.int .i64 0, .int .i64 0, .int .i64 0, .int .i64 0, .slice none 0 0, .int .i64 0], .int .i64 0], []⟩ 8 (by kernel_rfl) (by kernel_rfl) (by kernel_rfl) (by kernel_rfl)) ?_
  intro W base args ds gs before hval0 hW hcnd _
  have hval : ∀ (j : Nat) t v, Try.f8.params[j]? = some t → args[j]? = some v → Value.okWide Try.prog W .any base t v := hval0
  have hW' := hW
  obtain ⟨p, q, hA0, hV, rfl, hfz, hnd⟩ := hW
  have hA : DataW.TrodAll enc Try.prog W 0 (fun _ => true) true Try.f8.params.toList args.toList ds p := hA0
  rw [Try.params8] at hA hval
  obtain ⟨v0, vs0, d0, ds0, p0, q0, hargs, rfl, rfl, h0, r0⟩ := trodAll_cons hA
  obtain ⟨v1, vs1, d1, ds1, p1, q1, rfl, rfl, rfl, h1, r1⟩ := trodAll_cons r0
  obtain ⟨rfl, rfl, rfl⟩ := trodAll_nil r1
  obtain rfl : args = #[v0, v1] := by cases args; simp_all
  obtain ⟨rfl, rfl⟩ := trodVars_none hV
  simp only [List.append_nil] at hW'
  have k0 := h0
  have lt0 : ∀ x ∈ p0, x.block < W.heap.size := fun x hx => by have := hW'.lt x (by simp [hx]); simpa using this
  obtain ⟨s, y, l, q, c, ad, n, cp, f, rfl, mn, R, mf⟩ := viewC Try.underlying48 (by kernel_rfl) rfl rfl rfl rfl rfl rfl (by kernel_rfl) (by kernel_rfl) (by kernel_rfl) (by kernel_rfl) (by kernel_rfl) (by kernel_rfl) Try.underlying3 Try.underlying3 Try.underlying3 Try.underlying3 Try.underlying40 Try.underlying23 Try.underlying3 (by kernel_rfl) (by kernel_rfl) Try.underlying3 (hval 0 48 v0 rfl rfl) h0
  have arg0 : ∀ (W' : World), Below W.heap.size W W' → DataW.Trod enc Try.prog W' 0 (fun b => decide (b < W.heap.size)) true 48 (.agg #[.int .i64 s, .int .i64 y, .int .i64 l, .int .i64 q, .slice ad n cp, .int .i64 c]) d0 p0 := fun W' hn => Below.trod laidOut (by kernel_rfl) (of_decide_eq_true (by kernel_rfl)) k0 hn lt0
  obtain ⟨a1, rfl, rfl, rfl, w1⟩ := open_int Try.underlying3 (hval 1 3 v1 rfl rfl) h1
  clear hA0 hval0
  refine (walk W s y l q c ad n cp f mn R mf a1 w1).mono fun e W' ⟨he, hg⟩ => ?_
  subst he
  refine ⟨_, rfl, _, _, _, [], p0 ++ ([] ++ []), [], hW', (trodAll_cons_mk (shut_bool Try.underlying4 _) trodAll_mk0), (trodAll_cons_mk (arg0 _ hg) (trodAll_cons_mk (shut_int Try.underlying3 w1) trodAll_mk0)), rfl, hg.frame _, fun h => by cases h⟩
theorem over : Rows.fnExactCacheReadRow.holds Try.pinned (OpenSpec.ofChange Rows.fnExactCacheReadSpec) :=
  OpenClaim.holds_of_wide 8 Try.f8 rfl rfl rfl rfl rfl rfl rfl ⟨rfl, rfl, rfl, rfl, rfl⟩ rfl rfl rfl rfl rfl (by kernel_rfl) Try.func8 (by kernel_rfl)
    (of_decide_eq_true (by kernel_rfl)) (by unfold Func.isWrapper; first | (rw [if_pos (by decide +kernel)]; kernel_rfl) | (rw [if_neg (by decide +kernel)]; exact ⟨rfl, rfl⟩))
    (fun os started H enc _ => lifted os started H enc)
end Go.Proofs.Ytfhpjcojccfcoaa.fnExactCacheRead
namespace Go.Proofs.Ytfhpjcojccfcoaa
theorem cacheRead : Rows.FnExactCacheReadSaid := fnExactCacheRead.over
#print axioms cacheRead
end Go.Proofs.Ytfhpjcojccfcoaa
