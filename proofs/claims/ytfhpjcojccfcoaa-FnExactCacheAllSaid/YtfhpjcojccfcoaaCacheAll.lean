/- CacheAll answers as its model at every cache (4 numbers, rows of lines, a coin) and every row of places; it writes into no argument, and its answers own their memory, each its own. No conditions. -/
import Derived.Test.YtfhpjcojccfcoaaRows
import Derived.Test.YtfhpjcojccfcoaaCe
namespace Go.Proofs.Ytfhpjcojccfcoaa.fnExactCacheAll
open Go.ChangeShapes Go.WideShapes Go.ChangeAt Go.RowKit
set_option linter.unusedVariables false
theorem own : ownKnob Try.prog.godebug = none := by kernel_rfl
theorem laidOut : laidOutB Try.prog = true := by kernel_rfl
theorem tot_bd (L : Nat → List Int) (n b : Nat) (h : ∀ x, x < n → (L x).length ≤ b) : tot L n ≤ n * b := by
  induction n with
  | zero => exact Nat.zero_le _
  | succ n ih =>
    have h1 := ih (fun x hx => h x (by omega))
    have h2 := h n (by omega)
    rw [tot_succ, Nat.succ_mul]
    omega

set_option maxRecDepth 100000 in
set_option maxHeartbeats 4000000 in
theorem walk (w : World) (s y l q c : Int) (ad : Option Addr) (n cp : Nat) (f : Nat → List Int) (mn : n ≤ 9223372036854775807) (R : ARows w (.slice ad n cp) n f) (mf : ∀ i, i < n → (f i).length ≤ 9223372036854775807) (s1 : Option Addr) (n1 c1 : Nat) (f1 : Nat → Int) (m1 : n1 ≤ 9223372036854775807) (A1 : Arg w s1 n1 (fun i => .int .i64 (f1 i))) (z1 : ∀ i, (Lit.int .i64 (f1 i)).wf = true) :
    Calls Try.prog 9 #[.agg #[.int .i64 s, .int .i64 y, .int .i64 l, .int .i64 q, .slice ad n cp, .int .i64 c], .slice s1 n1 c1] w fun e w' => e = .returned (.bool true) ∧ Below w.heap.size w w' := by
  by_cases big : 1048576 < n1
  · have b1 : (1048576 : Int) < (n1 : Int) := by omega
    go_enter Try.func9, Try.ntmps9
    go_wp2
    go_ret
    exact ⟨rfl, alloc_b⟩
  have bb1 : ¬ (1048576 : Int) < (n1 : Int) := by omega
  have hn1 : n1 ≤ 1048576 := by omega
  have BA : Below w.heap.size w (w.alloc (.cells #[.int .i64 s, .int .i64 y, .int .i64 l, .int .i64 q, .slice ad n cp, .int .i64 c] 48)) := alloc_b
  have CA := C6.new w 48 (.int .i64 s) (.int .i64 y) (.int .i64 l) (.int .i64 q) (.slice ad n cp) (.int .i64 c)
  have h28 := szC s y l q c (.slice ad n cp) n f _ (R.next BA) mn mf 1048576 (by decide) (by decide)
  have HRR : Hid (∀ w', Below w.heap.size w w' → ARows w' (.slice ad n cp) n f) := fun w' b => R.next b
  have HTI : Hid (∀ w', Below w.heap.size w w' → Calls Try.prog 19 #[.slice s1 n1 c1] w' fun r w'' => r = .returned (.slice (some ⟨w'.heap.size, 0, none⟩) n1 n1) ∧ Own w'' w'.heap.size n1 (fun i => .int .i64 (f1 i)) ∧ Below w'.heap.size w' w'') := fun w' b => toN27 (A1.next b) c1 hn1
  have HE : Hid (∀ u v w', ARow w' u (fl f1 n1) → ARow w' v (fl f1 n1) → Calls Try.prog 20 #[u, v] w' fun r w'' => r = .returned (.bool true) ∧ Below w'.heap.size w' w'') := fun u v w' a b => (eqA25 (by rw [fl_len]; exact hn1) a b).mono fun e w'' ⟨h1, k, h2⟩ => ⟨h1, by rw [h2]; exact below_drewN (Below.refl _ _) k⟩
  obtain ⟨W1, hW1⟩ : ∃ W, w.alloc (.cells #[.int .i64 s, .int .i64 y, .int .i64 l, .int .i64 q, .slice ad n cp, .int .i64 c] 48) = W := ⟨_, rfl⟩
  have HCA : Hid (∀ w', Below W1.heap.size W1 w' → C6 w' w.heap.size (.int .i64 s) (.int .i64 y) (.int .i64 l) (.int .i64 q) (.slice ad n cp) (.int .i64 c)) := fun w' b => by rw [hW1] at CA; exact CA.next b
  have HW1 : Hid (W1.heap.size = w.heap.size + 1) := by show _ = _; rw [← hW1, World.size_alloc]
  rw [hW1] at BA CA h28
  have HBA := Hid.mk BA
  clear R BA CA A1 z1 big
  subst hW1
  go_enter Try.func9, Try.ntmps9
  go_wp2_with (go_at_call 28; refine h28.mono ?_; rintro e w2 ⟨⟨x, rfl, hx⟩, B2⟩; (have C2 := HCA.out w2 B2); (have e0 := C2.c0); (have e1 := C2.c1); (have e2 := C2.c2); (have e3 := C2.c3); (have e4 := C2.c4); (have e5 := C2.c5); (have eh := C2.hi))
  · go_ret
    exact ⟨rfl, HBA.out.trans (B2.mono HBA.out.size)⟩
  rename_i hx0
  have hx2 : (n : Int) + (tot f n : Int) ≤ 1048576 := by rcases hx with h | ⟨h1, h2, h3⟩; omega; omega
  have hn : n ≤ 1048576 := by omega
  have HL : Hid (∀ i, i < n → (f i).length ≤ 1048576) := fun i hi => by have := tot_le f hi; omega
  have HTF : Hid (1 + tot f n ≤ 1048577) := by show _ ≤ _; omega
  have B_0 : Below w.heap.size w w2 := HBA.out.trans (B2.mono HBA.out.size)
  have HT : Hid (∀ w', Below w.heap.size w w' → Calls Try.prog 30 #[.agg #[.int .i64 s, .int .i64 y, .int .i64 l, .int .i64 q, .slice ad n cp, .int .i64 c]] w' fun r w'' => ∃ g, r = .returned (.agg #[.int .i64 s, .int .i64 y, .int .i64 l, .int .i64 q, .slice (some ⟨g, 0, none⟩) n n, .int .i64 c]) ∧ w'.heap.size ≤ g ∧ (∃ p, Cp g n n f p w'') ∧ Below w'.heap.size w' w'') := fun w' b => toC s y l q c _ n f w' (HRR.out w' b) hn HL.out
  obtain ⟨A0, A1, A2, A3, A5, n', L', HH, XX, M, BB, hn64, hL8, hM200, hM, hP⟩ := ca_both s y l q c n f (fl f1 n1) hn HL.out (by rw [fl_len]; exact hn1)
  have HM := Hid.mk hM
  have HP := Hid.mk hP
  have hn' : n' ≤ 1048576 := by omega
  have hMl : M.length ≤ 1048576 := by omega
  have HL' : Hid (∀ x, x < n' → (L' x).length ≤ 1048576) := fun x hx => by have := hL8 x hx; omega
  have HTL : Hid (1 + tot L' n' ≤ 1000) := by show _ ≤ _; have := tot_bd L' n' 8 hL8; omega
  clear hM hP hL8 hx hx2 h28 mn mf HRR HBA
  cases BB
  all_goals
    have A_0 := C2
    have ZS0 : Hid (w.heap.size + 1 ≤ w2.heap.size) := by have h1 := B2.size; have h2 := HW1.out; exact (by rw [← h2]; exact h1)
    clear C2 B2 HCA
    go_wp2_with (first | (go_at_call 30; (with_reducible show Calls Try.prog 30 _ w2 _); refine (HT.out w2 B_0).mono ?_; rintro e w3 ⟨g3, rfl, hg3, ⟨pg3, P3⟩, B3⟩) | (go_at_call 19; (with_reducible show Calls Try.prog 19 _ w3 _); refine (HTI.out w3 (B_0.trans (B3.mono B_0.size))).mono ?_; rintro e w4 ⟨rfl, X4, B4⟩) | (go_at_call 34; refine (HM.out w4 _ _ (P3.next B4).rowsC (own_arow X4)).mono ?_; rintro e w5 ⟨b0, k0, u0, R0, rfl, Y0, N0, B5⟩; (obtain ⟨ua0, uc0, rfl⟩ := N0.slice); (have B25 : Below w2.heap.size w2 w5 := (B3.trans (B4.mono B3.size)).trans (B5.mono (Nat.le_trans B3.size B4.size))); (have Q4 := A_0.next B25); (have r0 := Q4.c0); (have r1 := Q4.c1); (have r2 := Q4.c2); (have r3 := Q4.c3); (have r4 := Q4.c4); (have r5 := Q4.c5); (have rh := Q4.hi)))
    have ZS1 : Hid (w2.heap.size ≤ w4.heap.size) := Nat.le_trans B3.size B4.size
    have ZS2 : Hid (w4.heap.size ≤ w5.heap.size) := B5.size
    have B_1 := B_0.trans ((B25).mono B_0.size)
    have A_1 := A_0.next (B25)
    clear B_0 A_0
    have M_1 := Y0
    have K_1 := N0
    have B_2 := B_1.trans ((alloc_b (o := (.cells #[.int .i64 A0, .int .i64 A1, .int .i64 A2, .int .i64 A3, .slice b0 n' k0, .int .i64 A5] 42))).mono B_1.size)
    have A_2 := A_1.next (alloc_b (o := (.cells #[.int .i64 A0, .int .i64 A1, .int .i64 A2, .int .i64 A3, .slice b0 n' k0, .int .i64 A5] 42)))
    have M_2 := M_1.next (alloc_b (o := (.cells #[.int .i64 A0, .int .i64 A1, .int .i64 A2, .int .i64 A3, .slice b0 n' k0, .int .i64 A5] 42)))
    have K_2 := K_1.next (alloc_b (o := (.cells #[.int .i64 A0, .int .i64 A1, .int .i64 A2, .int .i64 A3, .slice b0 n' k0, .int .i64 A5] 42)))
    clear B_1 A_1 M_1 K_1
    have C_2 := C6.new w5 42 (.int .i64 A0) (.int .i64 A1) (.int .i64 A2) (.int .i64 A3) (.slice b0 n' k0) (.int .i64 A5)
    have B_3 := B_2.trans ((alloc_b (o := (.cells #[.int .i64 HH, .int .i64 XX, .slice ua0 M.length uc0] 57))).mono B_2.size)
    have A_3 := A_2.next (alloc_b (o := (.cells #[.int .i64 HH, .int .i64 XX, .slice ua0 M.length uc0] 57)))
    have M_3 := M_2.next (alloc_b (o := (.cells #[.int .i64 HH, .int .i64 XX, .slice ua0 M.length uc0] 57)))
    have K_3 := K_2.next (alloc_b (o := (.cells #[.int .i64 HH, .int .i64 XX, .slice ua0 M.length uc0] 57)))
    have C_3 := C_2.next (alloc_b (o := (.cells #[.int .i64 HH, .int .i64 XX, .slice ua0 M.length uc0] 57)))
    clear B_2 A_2 M_2 K_2 C_2
    have F_3 := C3.new (w5.alloc (.cells #[.int .i64 A0, .int .i64 A1, .int .i64 A2, .int .i64 A3, .slice b0 n' k0, .int .i64 A5] 42)) 57 (.int .i64 HH) (.int .i64 XX) (.slice ua0 M.length uc0)
    rw [World.size_alloc] at F_3
    obtain ⟨W6, hW6⟩ : ∃ W, (w5.alloc (.cells #[.int .i64 A0, .int .i64 A1, .int .i64 A2, .int .i64 A3, .slice b0 n' k0, .int .i64 A5] 42)).alloc (.cells #[.int .i64 HH, .int .i64 XX, .slice ua0 M.length uc0] 57) = W := ⟨_, rfl⟩
    rw [hW6] at B_3 A_3 M_3 K_3 C_3 F_3 ⊢
    have ZS3 : Hid (W6.heap.size = w5.heap.size + 1 + 1) := by show _ = _; rw [← hW6, World.size_alloc, World.size_alloc]
    clear hW6 P3 B3 B4 B5 B25 X4 Y0 N0 Q4 hg3 e0 e1 e2 e3 e4 e5 eh r0 r1 r2 r3 r4 r5 rh
    have e0 := A_3.c0
    have e1 := A_3.c1
    have e2 := A_3.c2
    have e3 := A_3.c3
    have e4 := A_3.c4
    have e5 := A_3.c5
    have eh := A_3.hi
    go_wp2_with (go_at_call 30; (with_reducible show Calls Try.prog 30 _ W6 _); refine (HT.out W6 B_3).mono ?_; rintro e w7 ⟨g7, rfl, hg7, ⟨pg7, P7⟩, B7⟩)
    have ZS4 : Hid (W6.heap.size ≤ w7.heap.size) := B7.size
    have ZS5 : Hid (g7 < w7.heap.size) := P7.hz
    have ZS6 : Hid (W6.heap.size ≤ g7) := hg7
    have B_4 := B_3.trans ((B7).mono B_3.size)
    have A_4 := A_3.next (B7)
    have M_4 := M_3.next (B7)
    have K_4 := K_3.next (B7)
    have C_4 := C_3.next (B7)
    have F_4 := F_3.next (B7)
    clear B_3 A_3 M_3 K_3 C_3 F_3
    have P_4 := P7.ax.ay
    have B_5 := B_4.trans ((alloc_b (o := (.cells #[.int .i64 s, .int .i64 y, .int .i64 l, .int .i64 q, .slice (some ⟨g7, 0, none⟩) n n, .int .i64 c] 42))).mono B_4.size)
    have A_5 := A_4.next (alloc_b (o := (.cells #[.int .i64 s, .int .i64 y, .int .i64 l, .int .i64 q, .slice (some ⟨g7, 0, none⟩) n n, .int .i64 c] 42)))
    have M_5 := M_4.next (alloc_b (o := (.cells #[.int .i64 s, .int .i64 y, .int .i64 l, .int .i64 q, .slice (some ⟨g7, 0, none⟩) n n, .int .i64 c] 42)))
    have K_5 := K_4.next (alloc_b (o := (.cells #[.int .i64 s, .int .i64 y, .int .i64 l, .int .i64 q, .slice (some ⟨g7, 0, none⟩) n n, .int .i64 c] 42)))
    have C_5 := C_4.next (alloc_b (o := (.cells #[.int .i64 s, .int .i64 y, .int .i64 l, .int .i64 q, .slice (some ⟨g7, 0, none⟩) n n, .int .i64 c] 42)))
    have F_5 := F_4.next (alloc_b (o := (.cells #[.int .i64 s, .int .i64 y, .int .i64 l, .int .i64 q, .slice (some ⟨g7, 0, none⟩) n n, .int .i64 c] 42)))
    have P_5 := P_4.next (alloc_b (o := (.cells #[.int .i64 s, .int .i64 y, .int .i64 l, .int .i64 q, .slice (some ⟨g7, 0, none⟩) n n, .int .i64 c] 42)))
    clear B_4 A_4 M_4 K_4 C_4 F_4 P_4
    have D_5 := C6.new w7 42 (.int .i64 s) (.int .i64 y) (.int .i64 l) (.int .i64 q) (.slice (some ⟨g7, 0, none⟩) n n) (.int .i64 c)
    obtain ⟨W8, hW8⟩ : ∃ W, w7.alloc (.cells #[.int .i64 s, .int .i64 y, .int .i64 l, .int .i64 q, .slice (some ⟨g7, 0, none⟩) n n, .int .i64 c] 42) = W := ⟨_, rfl⟩
    rw [hW8] at B_5 A_5 M_5 K_5 C_5 F_5 P_5 D_5 ⊢
    have ZS7 : Hid (W8.heap.size = w7.heap.size + 1) := by show _ = _; rw [← hW8, World.size_alloc]
    clear hW8 B7 P7 hg7 e0 e1 e2 e3 e4 e5 eh
    go_wp2_with (go_at_call 19; (with_reducible show Calls Try.prog 19 _ W8 _); refine (HTI.out W8 B_5).mono ?_; rintro e w9 ⟨rfl, X9, B9⟩; (have QD := D_5.next B9); (have e0 := QD.c0); (have e1 := QD.c1); (have e2 := QD.c2); (have e3 := QD.c3); (have e4 := QD.c4); (have e5 := QD.c5); (have eh := QD.hi))
    have ZS8 : Hid (W8.heap.size < w9.heap.size) := X9.hi
    have B_6 := B_5.trans ((B9).mono B_5.size)
    have A_6 := A_5.next (B9)
    have M_6 := M_5.next (B9)
    have K_6 := K_5.next (B9)
    have C_6 := C_5.next (B9)
    have F_6 := F_5.next (B9)
    have P_6 := P_5.next (B9)
    have D_6 := D_5.next (B9)
    clear B_5 A_5 M_5 K_5 C_5 F_5 P_5 D_5
    have I_6 := X9
    clear B9 X9
    go_wp2_with (go_at_call 35; refine (HP.out w9 _ _ P_6.arows (own_arow I_6)).mono ?_; rintro e w10 ⟨b1, k1, u1, R1, rfl, Y1, N1, B10⟩; (obtain ⟨ua1, uc1, rfl⟩ := N1.slice); (have Q8 := C_6.next B10); (have r0 := Q8.c0); (have r1 := Q8.c1); (have r2 := Q8.c2); (have r3 := Q8.c3); (have r4 := Q8.c4); (have r5 := Q8.c5); (have rh := Q8.hi); (have Q9 := F_6.next B10); (have t0 := Q9.c0); (have t1 := Q9.c1); (have t2 := Q9.c2); (have th := Q9.hi))
    have ZS9 : Hid (w9.heap.size ≤ w10.heap.size) := B10.size
    have B_7 := B_6.trans ((B10).mono B_6.size)
    have A_7 := A_6.next (B10)
    have M_7 := M_6.next (B10)
    have K_7 := K_6.next (B10)
    have C_7 := C_6.next (B10)
    have F_7 := F_6.next (B10)
    have P_7 := P_6.next (B10)
    have D_7 := D_6.next (B10)
    have I_7 := I_6.next (B10)
    clear B_6 A_6 M_6 K_6 C_6 F_6 P_6 D_6 I_6
    have N_7 := Y1
    have J_7 := N1
    have B_8 := B_7.trans ((alloc_b (o := (.cells #[.int .i64 A0, .int .i64 A1, .int .i64 A2, .int .i64 A3, .slice b1 n' k1, .int .i64 A5] 42))).mono B_7.size)
    have A_8 := A_7.next (alloc_b (o := (.cells #[.int .i64 A0, .int .i64 A1, .int .i64 A2, .int .i64 A3, .slice b1 n' k1, .int .i64 A5] 42)))
    have M_8 := M_7.next (alloc_b (o := (.cells #[.int .i64 A0, .int .i64 A1, .int .i64 A2, .int .i64 A3, .slice b1 n' k1, .int .i64 A5] 42)))
    have K_8 := K_7.next (alloc_b (o := (.cells #[.int .i64 A0, .int .i64 A1, .int .i64 A2, .int .i64 A3, .slice b1 n' k1, .int .i64 A5] 42)))
    have C_8 := C_7.next (alloc_b (o := (.cells #[.int .i64 A0, .int .i64 A1, .int .i64 A2, .int .i64 A3, .slice b1 n' k1, .int .i64 A5] 42)))
    have F_8 := F_7.next (alloc_b (o := (.cells #[.int .i64 A0, .int .i64 A1, .int .i64 A2, .int .i64 A3, .slice b1 n' k1, .int .i64 A5] 42)))
    have P_8 := P_7.next (alloc_b (o := (.cells #[.int .i64 A0, .int .i64 A1, .int .i64 A2, .int .i64 A3, .slice b1 n' k1, .int .i64 A5] 42)))
    have D_8 := D_7.next (alloc_b (o := (.cells #[.int .i64 A0, .int .i64 A1, .int .i64 A2, .int .i64 A3, .slice b1 n' k1, .int .i64 A5] 42)))
    have I_8 := I_7.next (alloc_b (o := (.cells #[.int .i64 A0, .int .i64 A1, .int .i64 A2, .int .i64 A3, .slice b1 n' k1, .int .i64 A5] 42)))
    have N_8 := N_7.next (alloc_b (o := (.cells #[.int .i64 A0, .int .i64 A1, .int .i64 A2, .int .i64 A3, .slice b1 n' k1, .int .i64 A5] 42)))
    have J_8 := J_7.next (alloc_b (o := (.cells #[.int .i64 A0, .int .i64 A1, .int .i64 A2, .int .i64 A3, .slice b1 n' k1, .int .i64 A5] 42)))
    clear B_7 A_7 M_7 K_7 C_7 F_7 P_7 D_7 I_7 N_7 J_7
    have E_8 := C6.new w10 42 (.int .i64 A0) (.int .i64 A1) (.int .i64 A2) (.int .i64 A3) (.slice b1 n' k1) (.int .i64 A5)
    have B_9 := B_8.trans ((alloc_b (o := (.cells #[.int .i64 HH, .int .i64 XX, .slice ua1 M.length uc1] 57))).mono B_8.size)
    have A_9 := A_8.next (alloc_b (o := (.cells #[.int .i64 HH, .int .i64 XX, .slice ua1 M.length uc1] 57)))
    have M_9 := M_8.next (alloc_b (o := (.cells #[.int .i64 HH, .int .i64 XX, .slice ua1 M.length uc1] 57)))
    have K_9 := K_8.next (alloc_b (o := (.cells #[.int .i64 HH, .int .i64 XX, .slice ua1 M.length uc1] 57)))
    have C_9 := C_8.next (alloc_b (o := (.cells #[.int .i64 HH, .int .i64 XX, .slice ua1 M.length uc1] 57)))
    have F_9 := F_8.next (alloc_b (o := (.cells #[.int .i64 HH, .int .i64 XX, .slice ua1 M.length uc1] 57)))
    have P_9 := P_8.next (alloc_b (o := (.cells #[.int .i64 HH, .int .i64 XX, .slice ua1 M.length uc1] 57)))
    have D_9 := D_8.next (alloc_b (o := (.cells #[.int .i64 HH, .int .i64 XX, .slice ua1 M.length uc1] 57)))
    have I_9 := I_8.next (alloc_b (o := (.cells #[.int .i64 HH, .int .i64 XX, .slice ua1 M.length uc1] 57)))
    have N_9 := N_8.next (alloc_b (o := (.cells #[.int .i64 HH, .int .i64 XX, .slice ua1 M.length uc1] 57)))
    have J_9 := J_8.next (alloc_b (o := (.cells #[.int .i64 HH, .int .i64 XX, .slice ua1 M.length uc1] 57)))
    have E_9 := E_8.next (alloc_b (o := (.cells #[.int .i64 HH, .int .i64 XX, .slice ua1 M.length uc1] 57)))
    clear B_8 A_8 M_8 K_8 C_8 F_8 P_8 D_8 I_8 N_8 J_8 E_8
    have G_9 := C3.new (w10.alloc (.cells #[.int .i64 A0, .int .i64 A1, .int .i64 A2, .int .i64 A3, .slice b1 n' k1, .int .i64 A5] 42)) 57 (.int .i64 HH) (.int .i64 XX) (.slice ua1 M.length uc1)
    rw [World.size_alloc] at G_9
    obtain ⟨W11, hW11⟩ : ∃ W, (w10.alloc (.cells #[.int .i64 A0, .int .i64 A1, .int .i64 A2, .int .i64 A3, .slice b1 n' k1, .int .i64 A5] 42)).alloc (.cells #[.int .i64 HH, .int .i64 XX, .slice ua1 M.length uc1] 57) = W := ⟨_, rfl⟩
    rw [hW11] at B_9 A_9 M_9 K_9 C_9 F_9 P_9 D_9 I_9 N_9 J_9 E_9 G_9 ⊢
    have ZS10 : Hid (W11.heap.size = w10.heap.size + 1 + 1) := by show _ = _; rw [← hW11, World.size_alloc, World.size_alloc]
    clear hW11 B10 Y1 N1 Q8 Q9 QD e0 e1 e2 e3 e4 e5 eh r0 r1 r2 r3 r4 r5 rh t0 t1 t2 th
    have d0 := C_9.c0
    have d1 := C_9.c1
    have d2 := C_9.c2
    have d3 := C_9.c3
    have d4 := C_9.c4
    have d5 := C_9.c5
    have dh := C_9.hi
    have e0 := E_9.c0
    have e1 := E_9.c1
    have e2 := E_9.c2
    have e3 := E_9.c3
    have e4 := E_9.c4
    have e5 := E_9.c5
    have eh := E_9.hi
    have xx0 := F_9.c0
    have xx1 := F_9.c1
    have xx2 := F_9.c2
    have xxh := F_9.hi
    have gg0 := G_9.c0
    have gg1 := G_9.c1
    have gg2 := G_9.c2
    have ggh := G_9.hi
    go_wp2_with (go_at_call 25; (with_reducible show Calls Try.prog 25 _ W11 _); refine (eqcache A0 A1 A2 A3 A5 (.slice b1 n' k1) (.slice b0 n' k0) n' L' W11 N_9.arows M_9.arows hn' HL'.out).mono ?_; rintro e w12 ⟨rfl, Ba⟩; (have Q1 := G_9.next Ba); (have r0 := Q1.c0); (have r1 := Q1.c1); (have r2 := Q1.c2); (have rh := Q1.hi); (have Q2 := F_9.next Ba); (have t0 := Q2.c0); (have t1 := Q2.c1); (have t2 := Q2.c2); (have th := Q2.hi))
    clear Q1 Q2
    have ZS11 : Hid (W11.heap.size ≤ w12.heap.size) := Ba.size
    have B_10 := B_9.trans ((Ba).mono B_9.size)
    have A_10 := A_9.next (Ba)
    have M_10 := M_9.next (Ba)
    have K_10 := K_9.next (Ba)
    have C_10 := C_9.next (Ba)
    have F_10 := F_9.next (Ba)
    have P_10 := P_9.next (Ba)
    have D_10 := D_9.next (Ba)
    have I_10 := I_9.next (Ba)
    have N_10 := N_9.next (Ba)
    have J_10 := J_9.next (Ba)
    have E_10 := E_9.next (Ba)
    have G_10 := G_9.next (Ba)
    clear B_9 A_9 M_9 K_9 C_9 F_9 P_9 D_9 I_9 N_9 J_9 E_9 G_9
    clear Ba
    go_wp2_with (go_at_call 36; (with_reducible show Calls Try.prog 36 _ w12 _); refine (eqhits HH XX J_10 K_10 hMl).mono ?_; rintro e w13 ⟨rfl, Bb⟩)
    clear r0 r1 r2 rh t0 t1 t2 th
    have ZS12 : Hid (w12.heap.size ≤ w13.heap.size) := Bb.size
    have B_11 := B_10.trans ((Bb).mono B_10.size)
    have A_11 := A_10.next (Bb)
    have M_11 := M_10.next (Bb)
    have K_11 := K_10.next (Bb)
    have C_11 := C_10.next (Bb)
    have F_11 := F_10.next (Bb)
    have P_11 := P_10.next (Bb)
    have D_11 := D_10.next (Bb)
    have I_11 := I_10.next (Bb)
    have N_11 := N_10.next (Bb)
    have J_11 := J_10.next (Bb)
    have E_11 := E_10.next (Bb)
    have G_11 := G_10.next (Bb)
    clear B_10 A_10 M_10 K_10 C_10 F_10 P_10 D_10 I_10 N_10 J_10 E_10 G_10
    clear Bb
    clear d0 d1 d2 d3 d4 d5 dh e0 e1 e2 e3 e4 e5 eh xx0 xx1 xx2 xxh gg0 gg1 gg2 ggh
    go_wp2
    generalize hWW : w13.drew = WX
    have B_12 := B_11.trans ((below_drew (Below.refl w13.heap.size w13)).mono B_11.size)
    have A_12 := A_11.next (below_drew (Below.refl w13.heap.size w13))
    have M_12 := M_11.next (below_drew (Below.refl w13.heap.size w13))
    have K_12 := K_11.next (below_drew (Below.refl w13.heap.size w13))
    have C_12 := C_11.next (below_drew (Below.refl w13.heap.size w13))
    have F_12 := F_11.next (below_drew (Below.refl w13.heap.size w13))
    have P_12 := P_11.next (below_drew (Below.refl w13.heap.size w13))
    have D_12 := D_11.next (below_drew (Below.refl w13.heap.size w13))
    have I_12 := I_11.next (below_drew (Below.refl w13.heap.size w13))
    have N_12 := N_11.next (below_drew (Below.refl w13.heap.size w13))
    have J_12 := J_11.next (below_drew (Below.refl w13.heap.size w13))
    have E_12 := E_11.next (below_drew (Below.refl w13.heap.size w13))
    have G_12 := G_11.next (below_drew (Below.refl w13.heap.size w13))
    clear B_11 A_11 M_11 K_11 C_11 F_11 P_11 D_11 I_11 N_11 J_11 E_11 G_11
    rw [hWW] at B_12 A_12 M_12 K_12 C_12 F_12 P_12 D_12 I_12 N_12 J_12 E_12 G_12
    have ZS13 : Hid (w13.heap.size ≤ WX.heap.size) := by rw [← hWW]; exact Nat.le_refl _
    refine wp_region_held_drew (S := fun v => Below WX.heap.size WX v) (by kernel_rfl) (by rw [hWW]; exact Below.refl _ _) (fun hH => ?_)
    rw [hWW] at hH ⊢
    clear hWW
    refine wpAnyH_take (i := 0) (oi := { dst := some 63, op := Op.load 42 (Operand.tmp 9), type := 42, pos := "exact.go:4994", after := #[], guard := none }) (v := .agg #[.int .i64 s, .int .i64 y, .int .i64 l, .int .i64 q, .slice (some ⟨g7, 0, none⟩) n n, .int .i64 c]) rfl (by kernel_rfl) (by kernel_rfl) (by kernel_rfl) (fun _ _ _ h => h) (Or.inl ⟨by rfl, fun w0 hSw => by ((have e0 := cell_nx D_12.c0 hSw); (have e1 := cell_nx D_12.c1 hSw); (have e2 := cell_nx D_12.c2 hSw); (have e3 := cell_nx D_12.c3 hSw); (have e4 := cell_nx D_12.c4 hSw); (have e5 := cell_nx D_12.c5 hSw); go_simp)⟩) hH ?_
    simp only [Act.put, List.setIfInBounds_toArray, List.set_cons_zero, List.set_cons_succ]
    refine wpAnyH_take (i := 1) (oi := { dst := some 64, op := Op.load 48 (Operand.tmp 2), type := 48, pos := "exact.go:4994", after := #[], guard := none }) (v := .agg #[.int .i64 s, .int .i64 y, .int .i64 l, .int .i64 q, .slice ad n cp, .int .i64 c]) rfl (by kernel_rfl) (by kernel_rfl) (by kernel_rfl) (fun _ _ _ h => h) (Or.inl ⟨by rfl, fun w0 hSw => by ((have e0 := cell_nx A_12.c0 hSw); (have e1 := cell_nx A_12.c1 hSw); (have e2 := cell_nx A_12.c2 hSw); (have e3 := cell_nx A_12.c3 hSw); (have e4 := cell_nx A_12.c4 hSw); (have e5 := cell_nx A_12.c5 hSw); go_simp)⟩) hH ?_
    simp only [Act.put, List.setIfInBounds_toArray, List.set_cons_zero, List.set_cons_succ]
    refine wpAnyH_ready (rs := [2]) (by kernel_rfl) (by simp) ?_
    refine (AllReadyH.cons (o := { dst := some 65, op := Op.call { callee := Callee.value (Operand.func 30), args := #[Operand.tmp 64], argTypes := #[48] }, type := 42, pos := "exact.go:4994", after := #[{ on := 1, ground := Ground.data }], guard := none }) rfl (fun K hK => ?_) AllReadyH.nil)
    refine step_callC 30 #[.agg #[.int .i64 s, .int .i64 y, .int .i64 l, .int .i64 q, .slice ad n cp, .int .i64 c]] (fun z v w' => ∃ g, z = .agg #[.int .i64 s, .int .i64 y, .int .i64 l, .int .i64 q, .slice (some ⟨g, 0, none⟩) n n, .int .i64 c] ∧ v.heap.size ≤ g ∧ (∃ p, Cp g n n f p w') ∧ Below v.heap.size v w') (by rfl) (by go_simp) ((HT.out _ (B_12.trans (hH.mono B_12.size))).mono fun e w' ⟨g, h1, h2, h3, h4⟩ => ⟨_, h1, g, rfl, h2, h3, h4⟩) ?_
    rintro zT wT ⟨gT, rfl, _, ⟨pT, PT⟩, BT⟩
    simp only [Act.put, List.setIfInBounds_toArray, List.set_cons_zero, List.set_cons_succ]
    refine hK.out _ _ (hH.trans (BT.mono hH.size)) (fun hH' => ?_)
    clear hK K
    have PX := (P_12.next (hH.trans (BT.mono hH.size)))
    replace hH := hH'
    clear hH' 
    refine wpAnyH_ready (rs := [3]) (by kernel_rfl) (by simp) ?_
    refine (AllReadyH.cons (o := { dst := some 66, op := Op.call { callee := Callee.value (Operand.func 25), args := #[Operand.tmp 63, Operand.tmp 65], argTypes := #[42, 42] }, type := 4, pos := "exact.go:4994", after := #[{ on := 0, ground := Ground.data }, { on := 2, ground := Ground.data }, { on := 2, ground := Ground.chain }], guard := none }) rfl (fun K hK => ?_) AllReadyH.nil)
    refine step_callC 25 #[.agg #[.int .i64 s, .int .i64 y, .int .i64 l, .int .i64 q, .slice (some ⟨g7, 0, none⟩) n n, .int .i64 c], .agg #[.int .i64 s, .int .i64 y, .int .i64 l, .int .i64 q, .slice (some ⟨gT, 0, none⟩) n n, .int .i64 c]] (fun z v w' => z = .bool true ∧ Below v.heap.size v w') (by rfl) (by go_simp) ((eqcache s y l q c _ _ n f _ PX.arows PT.ax.arows hn HL.out).mono fun e w' ⟨h1, h2⟩ => ⟨_, h1, rfl, h2⟩) ?_
    rintro zE wE ⟨rfl, BE⟩
    simp only [Act.put, List.setIfInBounds_toArray, List.set_cons_zero, List.set_cons_succ]
    refine hK.out _ _ (hH.trans (BE.mono hH.size)) (fun hH' => ?_)
    clear hK K
    replace hH := hH'
    clear hH' 
    refine wpAnyH_take (i := 4) (oi := { dst := some 67, op := Op.unOp UnOp.not 4 (Operand.tmp 66), type := 4, pos := "exact.go:4994", after := #[{ on := 3, ground := Ground.data }], guard := none }) (v := .bool false) rfl (by kernel_rfl) (by kernel_rfl) (by kernel_rfl) (fun _ _ _ h => h) (Or.inl ⟨by rfl, fun w0 hSw => by (go_simp)⟩) hH ?_
    simp only [Act.put, List.setIfInBounds_toArray, List.set_cons_zero, List.set_cons_succ]
    refine wpAnyH_done (by kernel_rfl) ?_ _
    clear PT PX BT BE
    have ZS14 : Hid (WX.heap.size ≤ wE.heap.size) := hH.size
    have B_13 := B_12.trans ((hH).mono B_12.size)
    have A_13 := A_12.next (hH)
    have M_13 := M_12.next (hH)
    have K_13 := K_12.next (hH)
    have C_13 := C_12.next (hH)
    have F_13 := F_12.next (hH)
    have P_13 := P_12.next (hH)
    have D_13 := D_12.next (hH)
    have I_13 := I_12.next (hH)
    have N_13 := N_12.next (hH)
    have J_13 := J_12.next (hH)
    have E_13 := E_12.next (hH)
    have G_13 := G_12.next (hH)
    clear B_12 A_12 M_12 K_12 C_12 F_12 P_12 D_12 I_12 N_12 J_12 E_12 G_12
    clear hH
    go_wp2_with (first | (go_at_call 19; (with_reducible show Calls Try.prog 19 _ wE _); refine (HTI.out wE B_13).mono ?_; rintro e w15 ⟨rfl, X15, B15⟩) | (go_at_call 20; refine (HE.out _ _ w15 (own_arow (I_13.next B15)) (own_arow X15)).mono ?_; rintro e w16 ⟨rfl, B16⟩; (have B1516 := B15.trans (B16.mono B15.size)); (have QD := D_13.next B1516); (have d0 := QD.c0); (have d1 := QD.c1); (have d2 := QD.c2); (have d3 := QD.c3); (have d4 := QD.c4); (have d5 := QD.c5); (have dh := QD.hi)))
    have ZS15 : Hid (wE.heap.size ≤ w16.heap.size) := B1516.size
    have B_14 := B_13.trans ((B1516).mono B_13.size)
    have A_14 := A_13.next (B1516)
    have M_14 := M_13.next (B1516)
    have K_14 := K_13.next (B1516)
    have C_14 := C_13.next (B1516)
    have F_14 := F_13.next (B1516)
    have P_14 := P_13.next (B1516)
    have D_14 := D_13.next (B1516)
    have I_14 := I_13.next (B1516)
    have N_14 := N_13.next (B1516)
    have J_14 := J_13.next (B1516)
    have E_14 := E_13.next (B1516)
    have G_14 := G_13.next (B1516)
    clear B_13 A_13 M_13 K_13 C_13 F_13 P_13 D_13 I_13 N_13 J_13 E_13 G_13
    clear B15 B16 B1516 X15 QD
    have h26 := markcacheS s y l q c P_14 hn 1 (by have := HTF.out; omega) HL.out
    obtain ⟨kx, hkx⟩ : ∃ k, 1 + tot f n = k := ⟨_, rfl⟩
    have HKX : Hid (kx ≤ 1048577) := by have := HTF.out; show _ ≤ _; omega
    rw [hkx] at h26
    clear hkx
    go_wp2_with (go_at_call 26; refine h26.mono ?_; rintro e w18 ⟨rfl, M6, T6⟩)
    clear h26 M6 d0 d1 d2 d3 d4 d5 dh
    clear D_14 P_14
    have ZS16 : Hid (w16.heap.size ≤ w18.heap.size) := T6.size
    have B_15 := B_14.trans ((T6).below _ (fun k h => by have h1 := h.1; have z0 := ZS0.out; have z1 := ZS1.out; have z2 := ZS2.out; have z3 := ZS3.out; have z4 := ZS4.out; have z5 := ZS5.out; have z6 := ZS6.out; have z7 := ZS7.out; have z8 := ZS8.out; have z9 := ZS9.out; have z10 := ZS10.out; have z11 := ZS11.out; have z12 := ZS12.out; have z13 := ZS13.out; have z14 := ZS14.out; have z15 := ZS15.out; have z16 := ZS16.out; omega) (by have z0 := ZS0.out; have z1 := ZS1.out; have z2 := ZS2.out; have z3 := ZS3.out; have z4 := ZS4.out; have z5 := ZS5.out; have z6 := ZS6.out; have z7 := ZS7.out; have z8 := ZS8.out; have z9 := ZS9.out; have z10 := ZS10.out; have z11 := ZS11.out; have z12 := ZS12.out; have z13 := ZS13.out; have z14 := ZS14.out; have z15 := ZS15.out; have z16 := ZS16.out; omega))
    have A_15 := A_14.bs (T6) (fun h => by have h1 := h.1; have h2 := h.2.1; have z0 := ZS0.out; have z1 := ZS1.out; have z2 := ZS2.out; have z3 := ZS3.out; have z4 := ZS4.out; have z5 := ZS5.out; have z6 := ZS6.out; have z7 := ZS7.out; have z8 := ZS8.out; have z9 := ZS9.out; have z10 := ZS10.out; have z11 := ZS11.out; have z12 := ZS12.out; have z13 := ZS13.out; have z14 := ZS14.out; have z15 := ZS15.out; have z16 := ZS16.out; omega)
    have M_15 := M_14.bs (T6) (fun k h g => by first | exact g.2.2 h.2.2 | exact h.2.2 g.2.2 | (have h1 := h.1; have h2 := h.2.1; have g1 := g.1; have g2 := g.2.1; have z0 := ZS0.out; have z1 := ZS1.out; have z2 := ZS2.out; have z3 := ZS3.out; have z4 := ZS4.out; have z5 := ZS5.out; have z6 := ZS6.out; have z7 := ZS7.out; have z8 := ZS8.out; have z9 := ZS9.out; have z10 := ZS10.out; have z11 := ZS11.out; have z12 := ZS12.out; have z13 := ZS13.out; have z14 := ZS14.out; have z15 := ZS15.out; have z16 := ZS16.out; omega))
    have K_15 := K_14.bs (T6) (fun k h g => by first | exact g.2.2 h.2.2 | exact h.2.2 g.2.2 | (have h1 := h.1; have h2 := h.2.1; have g1 := g.1; have g2 := g.2.1; have z0 := ZS0.out; have z1 := ZS1.out; have z2 := ZS2.out; have z3 := ZS3.out; have z4 := ZS4.out; have z5 := ZS5.out; have z6 := ZS6.out; have z7 := ZS7.out; have z8 := ZS8.out; have z9 := ZS9.out; have z10 := ZS10.out; have z11 := ZS11.out; have z12 := ZS12.out; have z13 := ZS13.out; have z14 := ZS14.out; have z15 := ZS15.out; have z16 := ZS16.out; omega))
    have C_15 := C_14.bs (T6) (fun h => by have h1 := h.1; have h2 := h.2.1; have z0 := ZS0.out; have z1 := ZS1.out; have z2 := ZS2.out; have z3 := ZS3.out; have z4 := ZS4.out; have z5 := ZS5.out; have z6 := ZS6.out; have z7 := ZS7.out; have z8 := ZS8.out; have z9 := ZS9.out; have z10 := ZS10.out; have z11 := ZS11.out; have z12 := ZS12.out; have z13 := ZS13.out; have z14 := ZS14.out; have z15 := ZS15.out; have z16 := ZS16.out; omega)
    have F_15 := F_14.bs (T6) (fun h => by have h1 := h.1; have h2 := h.2.1; have z0 := ZS0.out; have z1 := ZS1.out; have z2 := ZS2.out; have z3 := ZS3.out; have z4 := ZS4.out; have z5 := ZS5.out; have z6 := ZS6.out; have z7 := ZS7.out; have z8 := ZS8.out; have z9 := ZS9.out; have z10 := ZS10.out; have z11 := ZS11.out; have z12 := ZS12.out; have z13 := ZS13.out; have z14 := ZS14.out; have z15 := ZS15.out; have z16 := ZS16.out; omega)
    have I_15 := I_14.bs (T6) (fun h => by have h1 := h.1; have h2 := h.2.1; have z0 := ZS0.out; have z1 := ZS1.out; have z2 := ZS2.out; have z3 := ZS3.out; have z4 := ZS4.out; have z5 := ZS5.out; have z6 := ZS6.out; have z7 := ZS7.out; have z8 := ZS8.out; have z9 := ZS9.out; have z10 := ZS10.out; have z11 := ZS11.out; have z12 := ZS12.out; have z13 := ZS13.out; have z14 := ZS14.out; have z15 := ZS15.out; have z16 := ZS16.out; omega)
    have N_15 := N_14.bs (T6) (fun k h g => by first | exact g.2.2 h.2.2 | exact h.2.2 g.2.2 | (have h1 := h.1; have h2 := h.2.1; have g1 := g.1; have g2 := g.2.1; have z0 := ZS0.out; have z1 := ZS1.out; have z2 := ZS2.out; have z3 := ZS3.out; have z4 := ZS4.out; have z5 := ZS5.out; have z6 := ZS6.out; have z7 := ZS7.out; have z8 := ZS8.out; have z9 := ZS9.out; have z10 := ZS10.out; have z11 := ZS11.out; have z12 := ZS12.out; have z13 := ZS13.out; have z14 := ZS14.out; have z15 := ZS15.out; have z16 := ZS16.out; omega))
    have J_15 := J_14.bs (T6) (fun k h g => by first | exact g.2.2 h.2.2 | exact h.2.2 g.2.2 | (have h1 := h.1; have h2 := h.2.1; have g1 := g.1; have g2 := g.2.1; have z0 := ZS0.out; have z1 := ZS1.out; have z2 := ZS2.out; have z3 := ZS3.out; have z4 := ZS4.out; have z5 := ZS5.out; have z6 := ZS6.out; have z7 := ZS7.out; have z8 := ZS8.out; have z9 := ZS9.out; have z10 := ZS10.out; have z11 := ZS11.out; have z12 := ZS12.out; have z13 := ZS13.out; have z14 := ZS14.out; have z15 := ZS15.out; have z16 := ZS16.out; omega))
    have E_15 := E_14.bs (T6) (fun h => by have h1 := h.1; have h2 := h.2.1; have z0 := ZS0.out; have z1 := ZS1.out; have z2 := ZS2.out; have z3 := ZS3.out; have z4 := ZS4.out; have z5 := ZS5.out; have z6 := ZS6.out; have z7 := ZS7.out; have z8 := ZS8.out; have z9 := ZS9.out; have z10 := ZS10.out; have z11 := ZS11.out; have z12 := ZS12.out; have z13 := ZS13.out; have z14 := ZS14.out; have z15 := ZS15.out; have z16 := ZS16.out; omega)
    have G_15 := G_14.bs (T6) (fun h => by have h1 := h.1; have h2 := h.2.1; have z0 := ZS0.out; have z1 := ZS1.out; have z2 := ZS2.out; have z3 := ZS3.out; have z4 := ZS4.out; have z5 := ZS5.out; have z6 := ZS6.out; have z7 := ZS7.out; have z8 := ZS8.out; have z9 := ZS9.out; have z10 := ZS10.out; have z11 := ZS11.out; have z12 := ZS12.out; have z13 := ZS13.out; have z14 := ZS14.out; have z15 := ZS15.out; have z16 := ZS16.out; omega)
    clear B_14 A_14 M_14 K_14 C_14 F_14 I_14 N_14 J_14 E_14 G_14
    clear T6
    have h21 := markN I_15 n1 kx hn1 (by have := HKX.out; omega)
    obtain ⟨ky, hky⟩ : ∃ k, kx + n1 = k := ⟨_, rfl⟩
    rw [hky] at h21
    clear hky
    have hk0 : ¬ ((ky : Nat) : Int) < 0 := by omega
    have HRgI : Rg W8.heap.size (W8.heap.size + 1) (fun _ => True) W8.heap.size := ⟨Nat.le_refl _, Nat.lt_succ_self _, trivial⟩
    go_wp2_with (go_at_call 21; (with_reducible show Calls Try.prog 21 _ w18 _); refine h21.mono ?_; rintro e w19 ⟨rfl, O19, K19⟩; (have T19 := Bs.only (P := Rg W8.heap.size (W8.heap.size + 1) (fun _ => True)) K19 HRgI); (have QE := E_15.bs T19 (fun h => by have h1 := h.1; have h2 := h.2.1; have z0 := ZS0.out; have z1 := ZS1.out; have z2 := ZS2.out; have z3 := ZS3.out; have z4 := ZS4.out; have z5 := ZS5.out; have z6 := ZS6.out; have z7 := ZS7.out; have z8 := ZS8.out; have z9 := ZS9.out; have z10 := ZS10.out; have z11 := ZS11.out; have z12 := ZS12.out; have z13 := ZS13.out; have z14 := ZS14.out; have z15 := ZS15.out; have z16 := ZS16.out; omega)); (have e0 := QE.c0); (have e1 := QE.c1); (have e2 := QE.c2); (have e3 := QE.c3); (have e4 := QE.c4); (have e5 := QE.c5); (have eh := QE.hi); (have QC := C_15.bs T19 (fun h => by have h1 := h.1; have h2 := h.2.1; have z0 := ZS0.out; have z1 := ZS1.out; have z2 := ZS2.out; have z3 := ZS3.out; have z4 := ZS4.out; have z5 := ZS5.out; have z6 := ZS6.out; have z7 := ZS7.out; have z8 := ZS8.out; have z9 := ZS9.out; have z10 := ZS10.out; have z11 := ZS11.out; have z12 := ZS12.out; have z13 := ZS13.out; have z14 := ZS14.out; have z15 := ZS15.out; have z16 := ZS16.out; omega)); (have d0 := QC.c0); (have d1 := QC.c1); (have d2 := QC.c2); (have d3 := QC.c3); (have d4 := QC.c4); (have d5 := QC.c5); (have dh := QC.hi))
    clear h21 O19 K19 QE QC
    clear I_15
    have ZS17 : Hid (w18.heap.size ≤ w19.heap.size) := T19.size
    have B_16 := B_15.trans ((T19).below _ (fun k h => by have h1 := h.1; have z0 := ZS0.out; have z1 := ZS1.out; have z2 := ZS2.out; have z3 := ZS3.out; have z4 := ZS4.out; have z5 := ZS5.out; have z6 := ZS6.out; have z7 := ZS7.out; have z8 := ZS8.out; have z9 := ZS9.out; have z10 := ZS10.out; have z11 := ZS11.out; have z12 := ZS12.out; have z13 := ZS13.out; have z14 := ZS14.out; have z15 := ZS15.out; have z16 := ZS16.out; have z17 := ZS17.out; omega) (by have z0 := ZS0.out; have z1 := ZS1.out; have z2 := ZS2.out; have z3 := ZS3.out; have z4 := ZS4.out; have z5 := ZS5.out; have z6 := ZS6.out; have z7 := ZS7.out; have z8 := ZS8.out; have z9 := ZS9.out; have z10 := ZS10.out; have z11 := ZS11.out; have z12 := ZS12.out; have z13 := ZS13.out; have z14 := ZS14.out; have z15 := ZS15.out; have z16 := ZS16.out; have z17 := ZS17.out; omega))
    have A_16 := A_15.bs (T19) (fun h => by have h1 := h.1; have h2 := h.2.1; have z0 := ZS0.out; have z1 := ZS1.out; have z2 := ZS2.out; have z3 := ZS3.out; have z4 := ZS4.out; have z5 := ZS5.out; have z6 := ZS6.out; have z7 := ZS7.out; have z8 := ZS8.out; have z9 := ZS9.out; have z10 := ZS10.out; have z11 := ZS11.out; have z12 := ZS12.out; have z13 := ZS13.out; have z14 := ZS14.out; have z15 := ZS15.out; have z16 := ZS16.out; have z17 := ZS17.out; omega)
    have M_16 := M_15.bs (T19) (fun k h g => by first | exact g.2.2 h.2.2 | exact h.2.2 g.2.2 | (have h1 := h.1; have h2 := h.2.1; have g1 := g.1; have g2 := g.2.1; have z0 := ZS0.out; have z1 := ZS1.out; have z2 := ZS2.out; have z3 := ZS3.out; have z4 := ZS4.out; have z5 := ZS5.out; have z6 := ZS6.out; have z7 := ZS7.out; have z8 := ZS8.out; have z9 := ZS9.out; have z10 := ZS10.out; have z11 := ZS11.out; have z12 := ZS12.out; have z13 := ZS13.out; have z14 := ZS14.out; have z15 := ZS15.out; have z16 := ZS16.out; have z17 := ZS17.out; omega))
    have K_16 := K_15.bs (T19) (fun k h g => by first | exact g.2.2 h.2.2 | exact h.2.2 g.2.2 | (have h1 := h.1; have h2 := h.2.1; have g1 := g.1; have g2 := g.2.1; have z0 := ZS0.out; have z1 := ZS1.out; have z2 := ZS2.out; have z3 := ZS3.out; have z4 := ZS4.out; have z5 := ZS5.out; have z6 := ZS6.out; have z7 := ZS7.out; have z8 := ZS8.out; have z9 := ZS9.out; have z10 := ZS10.out; have z11 := ZS11.out; have z12 := ZS12.out; have z13 := ZS13.out; have z14 := ZS14.out; have z15 := ZS15.out; have z16 := ZS16.out; have z17 := ZS17.out; omega))
    have C_16 := C_15.bs (T19) (fun h => by have h1 := h.1; have h2 := h.2.1; have z0 := ZS0.out; have z1 := ZS1.out; have z2 := ZS2.out; have z3 := ZS3.out; have z4 := ZS4.out; have z5 := ZS5.out; have z6 := ZS6.out; have z7 := ZS7.out; have z8 := ZS8.out; have z9 := ZS9.out; have z10 := ZS10.out; have z11 := ZS11.out; have z12 := ZS12.out; have z13 := ZS13.out; have z14 := ZS14.out; have z15 := ZS15.out; have z16 := ZS16.out; have z17 := ZS17.out; omega)
    have F_16 := F_15.bs (T19) (fun h => by have h1 := h.1; have h2 := h.2.1; have z0 := ZS0.out; have z1 := ZS1.out; have z2 := ZS2.out; have z3 := ZS3.out; have z4 := ZS4.out; have z5 := ZS5.out; have z6 := ZS6.out; have z7 := ZS7.out; have z8 := ZS8.out; have z9 := ZS9.out; have z10 := ZS10.out; have z11 := ZS11.out; have z12 := ZS12.out; have z13 := ZS13.out; have z14 := ZS14.out; have z15 := ZS15.out; have z16 := ZS16.out; have z17 := ZS17.out; omega)
    have N_16 := N_15.bs (T19) (fun k h g => by first | exact g.2.2 h.2.2 | exact h.2.2 g.2.2 | (have h1 := h.1; have h2 := h.2.1; have g1 := g.1; have g2 := g.2.1; have z0 := ZS0.out; have z1 := ZS1.out; have z2 := ZS2.out; have z3 := ZS3.out; have z4 := ZS4.out; have z5 := ZS5.out; have z6 := ZS6.out; have z7 := ZS7.out; have z8 := ZS8.out; have z9 := ZS9.out; have z10 := ZS10.out; have z11 := ZS11.out; have z12 := ZS12.out; have z13 := ZS13.out; have z14 := ZS14.out; have z15 := ZS15.out; have z16 := ZS16.out; have z17 := ZS17.out; omega))
    have J_16 := J_15.bs (T19) (fun k h g => by first | exact g.2.2 h.2.2 | exact h.2.2 g.2.2 | (have h1 := h.1; have h2 := h.2.1; have g1 := g.1; have g2 := g.2.1; have z0 := ZS0.out; have z1 := ZS1.out; have z2 := ZS2.out; have z3 := ZS3.out; have z4 := ZS4.out; have z5 := ZS5.out; have z6 := ZS6.out; have z7 := ZS7.out; have z8 := ZS8.out; have z9 := ZS9.out; have z10 := ZS10.out; have z11 := ZS11.out; have z12 := ZS12.out; have z13 := ZS13.out; have z14 := ZS14.out; have z15 := ZS15.out; have z16 := ZS16.out; have z17 := ZS17.out; omega))
    have E_16 := E_15.bs (T19) (fun h => by have h1 := h.1; have h2 := h.2.1; have z0 := ZS0.out; have z1 := ZS1.out; have z2 := ZS2.out; have z3 := ZS3.out; have z4 := ZS4.out; have z5 := ZS5.out; have z6 := ZS6.out; have z7 := ZS7.out; have z8 := ZS8.out; have z9 := ZS9.out; have z10 := ZS10.out; have z11 := ZS11.out; have z12 := ZS12.out; have z13 := ZS13.out; have z14 := ZS14.out; have z15 := ZS15.out; have z16 := ZS16.out; have z17 := ZS17.out; omega)
    have G_16 := G_15.bs (T19) (fun h => by have h1 := h.1; have h2 := h.2.1; have z0 := ZS0.out; have z1 := ZS1.out; have z2 := ZS2.out; have z3 := ZS3.out; have z4 := ZS4.out; have z5 := ZS5.out; have z6 := ZS6.out; have z7 := ZS7.out; have z8 := ZS8.out; have z9 := ZS9.out; have z10 := ZS10.out; have z11 := ZS11.out; have z12 := ZS12.out; have z13 := ZS13.out; have z14 := ZS14.out; have z15 := ZS15.out; have z16 := ZS16.out; have z17 := ZS17.out; omega)
    clear B_15 A_15 M_15 K_15 C_15 F_15 N_15 J_15 E_15 G_15
    clear T19 HRgI
    go_wp2_with (go_at_call 25; (with_reducible show Calls Try.prog 25 _ w19 _); refine (eqcache A0 A1 A2 A3 A5 (.slice b1 n' k1) (.slice b0 n' k0) n' L' w19 N_16.arows M_16.arows hn' HL'.out).mono ?_; rintro e w20 ⟨rfl, Ba⟩; (have Q1 := G_16.next Ba); (have r0 := Q1.c0); (have r1 := Q1.c1); (have r2 := Q1.c2); (have rh := Q1.hi); (have Q2 := F_16.next Ba); (have t0 := Q2.c0); (have t1 := Q2.c1); (have t2 := Q2.c2); (have th := Q2.hi))
    clear Q1 Q2
    have ZS18 : Hid (w19.heap.size ≤ w20.heap.size) := Ba.size
    have B_17 := B_16.trans ((Ba).mono B_16.size)
    have A_17 := A_16.next (Ba)
    have M_17 := M_16.next (Ba)
    have K_17 := K_16.next (Ba)
    have C_17 := C_16.next (Ba)
    have F_17 := F_16.next (Ba)
    have N_17 := N_16.next (Ba)
    have J_17 := J_16.next (Ba)
    have E_17 := E_16.next (Ba)
    have G_17 := G_16.next (Ba)
    clear B_16 A_16 M_16 K_16 C_16 F_16 N_16 J_16 E_16 G_16
    clear Ba
    go_wp2_with (go_at_call 36; (with_reducible show Calls Try.prog 36 _ w20 _); refine (eqhits HH XX J_17 K_17 hMl).mono ?_; rintro e w21 ⟨rfl, Bb⟩; (have QE := E_17.next Bb); (have xx0 := QE.c0); (have xx1 := QE.c1); (have xx2 := QE.c2); (have xx3 := QE.c3); (have xx4 := QE.c4); (have xx5 := QE.c5); (have xxh := QE.hi))
    clear r0 r1 r2 rh t0 t1 t2 th
    have ZS19 : Hid (w20.heap.size ≤ w21.heap.size) := Bb.size
    have B_18 := B_17.trans ((Bb).mono B_17.size)
    have A_18 := A_17.next (Bb)
    have M_18 := M_17.next (Bb)
    have K_18 := K_17.next (Bb)
    have C_18 := C_17.next (Bb)
    have F_18 := F_17.next (Bb)
    have N_18 := N_17.next (Bb)
    have J_18 := J_17.next (Bb)
    have E_18 := E_17.next (Bb)
    have G_18 := G_17.next (Bb)
    clear B_17 A_17 M_17 K_17 C_17 F_17 N_17 J_17 E_17 G_17
    clear Bb
    clear d0 d1 d2 d3 d4 d5 dh e0 e1 e2 e3 e4 e5 eh
    have h26 := markcacheS A0 A1 A2 A3 A5 N_18 hn' 1 (by have := HTL.out; omega) HL'.out
    have HHC : Hid (∀ v, My (Rg w9.heap.size w10.heap.size R1) v (.slice b1 n' k1) n' L' 1 → Calls Try.prog 27 #[.agg #[.int .i64 A0, .int .i64 A1, .int .i64 A2, .int .i64 A3, .slice b1 n' k1, .int .i64 A5], .int .i64 ((1 : Nat) : Int)] v fun r w' => r = .returned (.int .i64 ((1 + tot L' n' : Nat) : Int)) ∧ Below v.heap.size v w') := fun v M => heldcacheS A0 A1 A2 A3 A5 1 M hn' (by have := HTL.out; omega) HL'.out
    obtain ⟨kz, hkz⟩ : ∃ k, 1 + tot L' n' = k := ⟨_, rfl⟩
    have HKZ : Hid (kz ≤ 1000) := by have := HTL.out; show _ ≤ _; omega
    rw [hkz] at h26 HHC
    clear hkz
    have hk1 : ¬ ((kz : Nat) : Int) < 0 := by omega
    go_wp2_with (go_at_call 26; refine h26.mono ?_; rintro e w23 ⟨rfl, M23, T23⟩; (have QG := G_18.bs T23 (fun h => by have h1 := h.1; have h2 := h.2.1; have z0 := ZS0.out; have z1 := ZS1.out; have z2 := ZS2.out; have z3 := ZS3.out; have z4 := ZS4.out; have z5 := ZS5.out; have z6 := ZS6.out; have z7 := ZS7.out; have z8 := ZS8.out; have z9 := ZS9.out; have z10 := ZS10.out; have z11 := ZS11.out; have z12 := ZS12.out; have z13 := ZS13.out; have z14 := ZS14.out; have z15 := ZS15.out; have z16 := ZS16.out; have z17 := ZS17.out; have z18 := ZS18.out; have z19 := ZS19.out; omega)); (have t0 := QG.c0); (have t1 := QG.c1); (have t2 := QG.c2); (have th := QG.hi))
    clear h26 QE QG xx0 xx1 xx2 xx3 xx4 xx5 xxh
    have ZS20 : Hid (w21.heap.size ≤ w23.heap.size) := T23.size
    have B_19 := B_18.trans ((T23).below _ (fun k h => by have h1 := h.1; have z0 := ZS0.out; have z1 := ZS1.out; have z2 := ZS2.out; have z3 := ZS3.out; have z4 := ZS4.out; have z5 := ZS5.out; have z6 := ZS6.out; have z7 := ZS7.out; have z8 := ZS8.out; have z9 := ZS9.out; have z10 := ZS10.out; have z11 := ZS11.out; have z12 := ZS12.out; have z13 := ZS13.out; have z14 := ZS14.out; have z15 := ZS15.out; have z16 := ZS16.out; have z17 := ZS17.out; have z18 := ZS18.out; have z19 := ZS19.out; have z20 := ZS20.out; omega) (by have z0 := ZS0.out; have z1 := ZS1.out; have z2 := ZS2.out; have z3 := ZS3.out; have z4 := ZS4.out; have z5 := ZS5.out; have z6 := ZS6.out; have z7 := ZS7.out; have z8 := ZS8.out; have z9 := ZS9.out; have z10 := ZS10.out; have z11 := ZS11.out; have z12 := ZS12.out; have z13 := ZS13.out; have z14 := ZS14.out; have z15 := ZS15.out; have z16 := ZS16.out; have z17 := ZS17.out; have z18 := ZS18.out; have z19 := ZS19.out; have z20 := ZS20.out; omega))
    have A_19 := A_18.bs (T23) (fun h => by have h1 := h.1; have h2 := h.2.1; have z0 := ZS0.out; have z1 := ZS1.out; have z2 := ZS2.out; have z3 := ZS3.out; have z4 := ZS4.out; have z5 := ZS5.out; have z6 := ZS6.out; have z7 := ZS7.out; have z8 := ZS8.out; have z9 := ZS9.out; have z10 := ZS10.out; have z11 := ZS11.out; have z12 := ZS12.out; have z13 := ZS13.out; have z14 := ZS14.out; have z15 := ZS15.out; have z16 := ZS16.out; have z17 := ZS17.out; have z18 := ZS18.out; have z19 := ZS19.out; have z20 := ZS20.out; omega)
    have M_19 := M_18.bs (T23) (fun k h g => by first | exact g.2.2 h.2.2 | exact h.2.2 g.2.2 | (have h1 := h.1; have h2 := h.2.1; have g1 := g.1; have g2 := g.2.1; have z0 := ZS0.out; have z1 := ZS1.out; have z2 := ZS2.out; have z3 := ZS3.out; have z4 := ZS4.out; have z5 := ZS5.out; have z6 := ZS6.out; have z7 := ZS7.out; have z8 := ZS8.out; have z9 := ZS9.out; have z10 := ZS10.out; have z11 := ZS11.out; have z12 := ZS12.out; have z13 := ZS13.out; have z14 := ZS14.out; have z15 := ZS15.out; have z16 := ZS16.out; have z17 := ZS17.out; have z18 := ZS18.out; have z19 := ZS19.out; have z20 := ZS20.out; omega))
    have K_19 := K_18.bs (T23) (fun k h g => by first | exact g.2.2 h.2.2 | exact h.2.2 g.2.2 | (have h1 := h.1; have h2 := h.2.1; have g1 := g.1; have g2 := g.2.1; have z0 := ZS0.out; have z1 := ZS1.out; have z2 := ZS2.out; have z3 := ZS3.out; have z4 := ZS4.out; have z5 := ZS5.out; have z6 := ZS6.out; have z7 := ZS7.out; have z8 := ZS8.out; have z9 := ZS9.out; have z10 := ZS10.out; have z11 := ZS11.out; have z12 := ZS12.out; have z13 := ZS13.out; have z14 := ZS14.out; have z15 := ZS15.out; have z16 := ZS16.out; have z17 := ZS17.out; have z18 := ZS18.out; have z19 := ZS19.out; have z20 := ZS20.out; omega))
    have C_19 := C_18.bs (T23) (fun h => by have h1 := h.1; have h2 := h.2.1; have z0 := ZS0.out; have z1 := ZS1.out; have z2 := ZS2.out; have z3 := ZS3.out; have z4 := ZS4.out; have z5 := ZS5.out; have z6 := ZS6.out; have z7 := ZS7.out; have z8 := ZS8.out; have z9 := ZS9.out; have z10 := ZS10.out; have z11 := ZS11.out; have z12 := ZS12.out; have z13 := ZS13.out; have z14 := ZS14.out; have z15 := ZS15.out; have z16 := ZS16.out; have z17 := ZS17.out; have z18 := ZS18.out; have z19 := ZS19.out; have z20 := ZS20.out; omega)
    have F_19 := F_18.bs (T23) (fun h => by have h1 := h.1; have h2 := h.2.1; have z0 := ZS0.out; have z1 := ZS1.out; have z2 := ZS2.out; have z3 := ZS3.out; have z4 := ZS4.out; have z5 := ZS5.out; have z6 := ZS6.out; have z7 := ZS7.out; have z8 := ZS8.out; have z9 := ZS9.out; have z10 := ZS10.out; have z11 := ZS11.out; have z12 := ZS12.out; have z13 := ZS13.out; have z14 := ZS14.out; have z15 := ZS15.out; have z16 := ZS16.out; have z17 := ZS17.out; have z18 := ZS18.out; have z19 := ZS19.out; have z20 := ZS20.out; omega)
    have N_19 := M23
    have J_19 := J_18.bs (T23) (fun k h g => by first | exact g.2.2 h.2.2 | exact h.2.2 g.2.2 | (have h1 := h.1; have h2 := h.2.1; have g1 := g.1; have g2 := g.2.1; have z0 := ZS0.out; have z1 := ZS1.out; have z2 := ZS2.out; have z3 := ZS3.out; have z4 := ZS4.out; have z5 := ZS5.out; have z6 := ZS6.out; have z7 := ZS7.out; have z8 := ZS8.out; have z9 := ZS9.out; have z10 := ZS10.out; have z11 := ZS11.out; have z12 := ZS12.out; have z13 := ZS13.out; have z14 := ZS14.out; have z15 := ZS15.out; have z16 := ZS16.out; have z17 := ZS17.out; have z18 := ZS18.out; have z19 := ZS19.out; have z20 := ZS20.out; omega))
    have E_19 := E_18.bs (T23) (fun h => by have h1 := h.1; have h2 := h.2.1; have z0 := ZS0.out; have z1 := ZS1.out; have z2 := ZS2.out; have z3 := ZS3.out; have z4 := ZS4.out; have z5 := ZS5.out; have z6 := ZS6.out; have z7 := ZS7.out; have z8 := ZS8.out; have z9 := ZS9.out; have z10 := ZS10.out; have z11 := ZS11.out; have z12 := ZS12.out; have z13 := ZS13.out; have z14 := ZS14.out; have z15 := ZS15.out; have z16 := ZS16.out; have z17 := ZS17.out; have z18 := ZS18.out; have z19 := ZS19.out; have z20 := ZS20.out; omega)
    have G_19 := G_18.bs (T23) (fun h => by have h1 := h.1; have h2 := h.2.1; have z0 := ZS0.out; have z1 := ZS1.out; have z2 := ZS2.out; have z3 := ZS3.out; have z4 := ZS4.out; have z5 := ZS5.out; have z6 := ZS6.out; have z7 := ZS7.out; have z8 := ZS8.out; have z9 := ZS9.out; have z10 := ZS10.out; have z11 := ZS11.out; have z12 := ZS12.out; have z13 := ZS13.out; have z14 := ZS14.out; have z15 := ZS15.out; have z16 := ZS16.out; have z17 := ZS17.out; have z18 := ZS18.out; have z19 := ZS19.out; have z20 := ZS20.out; omega)
    clear B_18 A_18 M_18 K_18 C_18 F_18 N_18 J_18 E_18 G_18
    clear T23 M23
    have h37 := markhits HH XX J_19 kz hMl (by have := HKZ.out; omega)
    have HHH : Hid (∀ v, Ny (Rg w9.heap.size w10.heap.size (fun k => ¬ R1 k)) v (.slice ua1 M.length uc1) (fun i => ((kz + i : Nat) : Int)) M.length → Calls Try.prog 38 #[.agg #[.int .i64 HH, .int .i64 XX, .slice ua1 M.length uc1], .int .i64 ((kz : Nat) : Int)] v fun r w' => r = .returned (.int .i64 ((kz + M.length : Nat) : Int)) ∧ Below v.heap.size v w') := fun v N => heldhits HH XX kz N hMl (by have := HKZ.out; omega)
    obtain ⟨kq, hkq⟩ : ∃ k, kz + M.length = k := ⟨_, rfl⟩
    rw [hkq] at h37 HHH
    clear hkq
    have hk2 : ¬ ((kq : Nat) : Int) < 0 := by omega
    go_wp2_with (go_at_call 37; refine h37.mono ?_; rintro e w24 ⟨rfl, N24, T24⟩; (have QE := E_19.bs T24 (fun h => by have h1 := h.1; have h2 := h.2.1; have z0 := ZS0.out; have z1 := ZS1.out; have z2 := ZS2.out; have z3 := ZS3.out; have z4 := ZS4.out; have z5 := ZS5.out; have z6 := ZS6.out; have z7 := ZS7.out; have z8 := ZS8.out; have z9 := ZS9.out; have z10 := ZS10.out; have z11 := ZS11.out; have z12 := ZS12.out; have z13 := ZS13.out; have z14 := ZS14.out; have z15 := ZS15.out; have z16 := ZS16.out; have z17 := ZS17.out; have z18 := ZS18.out; have z19 := ZS19.out; have z20 := ZS20.out; omega)); (have e0 := QE.c0); (have e1 := QE.c1); (have e2 := QE.c2); (have e3 := QE.c3); (have e4 := QE.c4); (have e5 := QE.c5); (have eh := QE.hi))
    clear h37 t0 t1 t2 th
    have ZS21 : Hid (w23.heap.size ≤ w24.heap.size) := T24.size
    have B_20 := B_19.trans ((T24).below _ (fun k h => by have h1 := h.1; have z0 := ZS0.out; have z1 := ZS1.out; have z2 := ZS2.out; have z3 := ZS3.out; have z4 := ZS4.out; have z5 := ZS5.out; have z6 := ZS6.out; have z7 := ZS7.out; have z8 := ZS8.out; have z9 := ZS9.out; have z10 := ZS10.out; have z11 := ZS11.out; have z12 := ZS12.out; have z13 := ZS13.out; have z14 := ZS14.out; have z15 := ZS15.out; have z16 := ZS16.out; have z17 := ZS17.out; have z18 := ZS18.out; have z19 := ZS19.out; have z20 := ZS20.out; have z21 := ZS21.out; omega) (by have z0 := ZS0.out; have z1 := ZS1.out; have z2 := ZS2.out; have z3 := ZS3.out; have z4 := ZS4.out; have z5 := ZS5.out; have z6 := ZS6.out; have z7 := ZS7.out; have z8 := ZS8.out; have z9 := ZS9.out; have z10 := ZS10.out; have z11 := ZS11.out; have z12 := ZS12.out; have z13 := ZS13.out; have z14 := ZS14.out; have z15 := ZS15.out; have z16 := ZS16.out; have z17 := ZS17.out; have z18 := ZS18.out; have z19 := ZS19.out; have z20 := ZS20.out; have z21 := ZS21.out; omega))
    have A_20 := A_19.bs (T24) (fun h => by have h1 := h.1; have h2 := h.2.1; have z0 := ZS0.out; have z1 := ZS1.out; have z2 := ZS2.out; have z3 := ZS3.out; have z4 := ZS4.out; have z5 := ZS5.out; have z6 := ZS6.out; have z7 := ZS7.out; have z8 := ZS8.out; have z9 := ZS9.out; have z10 := ZS10.out; have z11 := ZS11.out; have z12 := ZS12.out; have z13 := ZS13.out; have z14 := ZS14.out; have z15 := ZS15.out; have z16 := ZS16.out; have z17 := ZS17.out; have z18 := ZS18.out; have z19 := ZS19.out; have z20 := ZS20.out; have z21 := ZS21.out; omega)
    have M_20 := M_19.bs (T24) (fun k h g => by first | exact g.2.2 h.2.2 | exact h.2.2 g.2.2 | (have h1 := h.1; have h2 := h.2.1; have g1 := g.1; have g2 := g.2.1; have z0 := ZS0.out; have z1 := ZS1.out; have z2 := ZS2.out; have z3 := ZS3.out; have z4 := ZS4.out; have z5 := ZS5.out; have z6 := ZS6.out; have z7 := ZS7.out; have z8 := ZS8.out; have z9 := ZS9.out; have z10 := ZS10.out; have z11 := ZS11.out; have z12 := ZS12.out; have z13 := ZS13.out; have z14 := ZS14.out; have z15 := ZS15.out; have z16 := ZS16.out; have z17 := ZS17.out; have z18 := ZS18.out; have z19 := ZS19.out; have z20 := ZS20.out; have z21 := ZS21.out; omega))
    have K_20 := K_19.bs (T24) (fun k h g => by first | exact g.2.2 h.2.2 | exact h.2.2 g.2.2 | (have h1 := h.1; have h2 := h.2.1; have g1 := g.1; have g2 := g.2.1; have z0 := ZS0.out; have z1 := ZS1.out; have z2 := ZS2.out; have z3 := ZS3.out; have z4 := ZS4.out; have z5 := ZS5.out; have z6 := ZS6.out; have z7 := ZS7.out; have z8 := ZS8.out; have z9 := ZS9.out; have z10 := ZS10.out; have z11 := ZS11.out; have z12 := ZS12.out; have z13 := ZS13.out; have z14 := ZS14.out; have z15 := ZS15.out; have z16 := ZS16.out; have z17 := ZS17.out; have z18 := ZS18.out; have z19 := ZS19.out; have z20 := ZS20.out; have z21 := ZS21.out; omega))
    have C_20 := C_19.bs (T24) (fun h => by have h1 := h.1; have h2 := h.2.1; have z0 := ZS0.out; have z1 := ZS1.out; have z2 := ZS2.out; have z3 := ZS3.out; have z4 := ZS4.out; have z5 := ZS5.out; have z6 := ZS6.out; have z7 := ZS7.out; have z8 := ZS8.out; have z9 := ZS9.out; have z10 := ZS10.out; have z11 := ZS11.out; have z12 := ZS12.out; have z13 := ZS13.out; have z14 := ZS14.out; have z15 := ZS15.out; have z16 := ZS16.out; have z17 := ZS17.out; have z18 := ZS18.out; have z19 := ZS19.out; have z20 := ZS20.out; have z21 := ZS21.out; omega)
    have F_20 := F_19.bs (T24) (fun h => by have h1 := h.1; have h2 := h.2.1; have z0 := ZS0.out; have z1 := ZS1.out; have z2 := ZS2.out; have z3 := ZS3.out; have z4 := ZS4.out; have z5 := ZS5.out; have z6 := ZS6.out; have z7 := ZS7.out; have z8 := ZS8.out; have z9 := ZS9.out; have z10 := ZS10.out; have z11 := ZS11.out; have z12 := ZS12.out; have z13 := ZS13.out; have z14 := ZS14.out; have z15 := ZS15.out; have z16 := ZS16.out; have z17 := ZS17.out; have z18 := ZS18.out; have z19 := ZS19.out; have z20 := ZS20.out; have z21 := ZS21.out; omega)
    have N_20 := N_19.bs (T24) (fun k h g => by first | exact g.2.2 h.2.2 | exact h.2.2 g.2.2 | (have h1 := h.1; have h2 := h.2.1; have g1 := g.1; have g2 := g.2.1; have z0 := ZS0.out; have z1 := ZS1.out; have z2 := ZS2.out; have z3 := ZS3.out; have z4 := ZS4.out; have z5 := ZS5.out; have z6 := ZS6.out; have z7 := ZS7.out; have z8 := ZS8.out; have z9 := ZS9.out; have z10 := ZS10.out; have z11 := ZS11.out; have z12 := ZS12.out; have z13 := ZS13.out; have z14 := ZS14.out; have z15 := ZS15.out; have z16 := ZS16.out; have z17 := ZS17.out; have z18 := ZS18.out; have z19 := ZS19.out; have z20 := ZS20.out; have z21 := ZS21.out; omega))
    have J_20 := N24
    have E_20 := E_19.bs (T24) (fun h => by have h1 := h.1; have h2 := h.2.1; have z0 := ZS0.out; have z1 := ZS1.out; have z2 := ZS2.out; have z3 := ZS3.out; have z4 := ZS4.out; have z5 := ZS5.out; have z6 := ZS6.out; have z7 := ZS7.out; have z8 := ZS8.out; have z9 := ZS9.out; have z10 := ZS10.out; have z11 := ZS11.out; have z12 := ZS12.out; have z13 := ZS13.out; have z14 := ZS14.out; have z15 := ZS15.out; have z16 := ZS16.out; have z17 := ZS17.out; have z18 := ZS18.out; have z19 := ZS19.out; have z20 := ZS20.out; have z21 := ZS21.out; omega)
    have G_20 := G_19.bs (T24) (fun h => by have h1 := h.1; have h2 := h.2.1; have z0 := ZS0.out; have z1 := ZS1.out; have z2 := ZS2.out; have z3 := ZS3.out; have z4 := ZS4.out; have z5 := ZS5.out; have z6 := ZS6.out; have z7 := ZS7.out; have z8 := ZS8.out; have z9 := ZS9.out; have z10 := ZS10.out; have z11 := ZS11.out; have z12 := ZS12.out; have z13 := ZS13.out; have z14 := ZS14.out; have z15 := ZS15.out; have z16 := ZS16.out; have z17 := ZS17.out; have z18 := ZS18.out; have z19 := ZS19.out; have z20 := ZS20.out; have z21 := ZS21.out; omega)
    clear B_19 A_19 M_19 K_19 C_19 F_19 N_19 J_19 E_19 G_19
    clear T24 N24 QE
    go_wp2_with (go_at_call 27; refine (HHC.out w24 N_20).mono ?_; rintro e w26 ⟨rfl, B26⟩; (have QG := G_20.next B26); (have t0 := QG.c0); (have t1 := QG.c1); (have t2 := QG.c2); (have th := QG.hi))
    have B_21 := B_20.trans ((B26).mono B_20.size)
    have A_21 := A_20.next (B26)
    have M_21 := M_20.next (B26)
    have K_21 := K_20.next (B26)
    have C_21 := C_20.next (B26)
    have F_21 := F_20.next (B26)
    have N_21 := N_20.next (B26)
    have J_21 := J_20.next (B26)
    have E_21 := E_20.next (B26)
    have G_21 := G_20.next (B26)
    clear B_20 A_20 M_20 K_20 C_20 F_20 N_20 J_20 E_20 G_20
    clear B26 QG e0 e1 e2 e3 e4 e5 eh
    go_wp2_with (go_at_call 38; refine (HHH.out w26 J_21).mono ?_; rintro e w29 ⟨rfl, B29⟩; (have QA := A_21.next B29); (have e0 := QA.c0); (have e1 := QA.c1); (have e2 := QA.c2); (have e3 := QA.c3); (have e4 := QA.c4); (have e5 := QA.c5); (have eh := QA.hi))
    have B_22 := B_21.trans ((B29).mono B_21.size)
    have A_22 := A_21.next (B29)
    have M_22 := M_21.next (B29)
    have K_22 := K_21.next (B29)
    have C_22 := C_21.next (B29)
    have F_22 := F_21.next (B29)
    have N_22 := N_21.next (B29)
    have J_22 := J_21.next (B29)
    have E_22 := E_21.next (B29)
    have G_22 := G_21.next (B29)
    clear B_21 A_21 M_21 K_21 C_21 F_21 N_21 J_21 E_21 G_21
    clear B29 QA t0 t1 t2 th
    go_wp2_with (first | (go_at_call 30; (with_reducible show Calls Try.prog 30 _ w29 _); refine (HT.out w29 B_22).mono ?_; rintro e w30 ⟨g30, rfl, hg30, ⟨pg30, P30⟩, B30⟩) | (go_at_call 19; (with_reducible show Calls Try.prog 19 _ w30 _); refine (HTI.out w30 (B_22.trans (B30.mono B_22.size))).mono ?_; rintro e w31 ⟨rfl, X31, B31⟩) | (go_at_call 35; refine (HP.out w31 _ _ (P30.next B31).ax.arows (own_arow X31)).mono ?_; rintro e w32 ⟨b2, k2, u2, R2, rfl, Y2, N2, B32⟩; (obtain ⟨ua2, uc2, rfl⟩ := N2.slice); (have B2932 : Below w29.heap.size w29 w32 := (B30.trans (B31.mono B30.size)).trans (B32.mono (Nat.le_trans B30.size B31.size))); (have Q8 := C_22.next B2932); (have r0 := Q8.c0); (have r1 := Q8.c1); (have r2 := Q8.c2); (have r3 := Q8.c3); (have r4 := Q8.c4); (have r5 := Q8.c5); (have rh := Q8.hi); (have Q9 := F_22.next B2932); (have t0 := Q9.c0); (have t1 := Q9.c1); (have t2 := Q9.c2); (have th := Q9.hi)))
    have B_23 := B_22.trans ((B2932).mono B_22.size)
    have A_23 := A_22.next (B2932)
    have M_23 := M_22.next (B2932)
    have K_23 := K_22.next (B2932)
    have C_23 := C_22.next (B2932)
    have F_23 := F_22.next (B2932)
    have N_23 := N_22.next (B2932)
    have J_23 := J_22.next (B2932)
    have E_23 := E_22.next (B2932)
    have G_23 := G_22.next (B2932)
    clear B_22 A_22 M_22 K_22 C_22 F_22 N_22 J_22 E_22 G_22
    have R_23 := Y2
    have S_23 := N2
    have B_24 := B_23.trans ((alloc_b (o := (.cells #[.int .i64 A0, .int .i64 A1, .int .i64 A2, .int .i64 A3, .slice b2 n' k2, .int .i64 A5] 42))).mono B_23.size)
    have A_24 := A_23.next (alloc_b (o := (.cells #[.int .i64 A0, .int .i64 A1, .int .i64 A2, .int .i64 A3, .slice b2 n' k2, .int .i64 A5] 42)))
    have M_24 := M_23.next (alloc_b (o := (.cells #[.int .i64 A0, .int .i64 A1, .int .i64 A2, .int .i64 A3, .slice b2 n' k2, .int .i64 A5] 42)))
    have K_24 := K_23.next (alloc_b (o := (.cells #[.int .i64 A0, .int .i64 A1, .int .i64 A2, .int .i64 A3, .slice b2 n' k2, .int .i64 A5] 42)))
    have C_24 := C_23.next (alloc_b (o := (.cells #[.int .i64 A0, .int .i64 A1, .int .i64 A2, .int .i64 A3, .slice b2 n' k2, .int .i64 A5] 42)))
    have F_24 := F_23.next (alloc_b (o := (.cells #[.int .i64 A0, .int .i64 A1, .int .i64 A2, .int .i64 A3, .slice b2 n' k2, .int .i64 A5] 42)))
    have N_24 := N_23.next (alloc_b (o := (.cells #[.int .i64 A0, .int .i64 A1, .int .i64 A2, .int .i64 A3, .slice b2 n' k2, .int .i64 A5] 42)))
    have J_24 := J_23.next (alloc_b (o := (.cells #[.int .i64 A0, .int .i64 A1, .int .i64 A2, .int .i64 A3, .slice b2 n' k2, .int .i64 A5] 42)))
    have E_24 := E_23.next (alloc_b (o := (.cells #[.int .i64 A0, .int .i64 A1, .int .i64 A2, .int .i64 A3, .slice b2 n' k2, .int .i64 A5] 42)))
    have G_24 := G_23.next (alloc_b (o := (.cells #[.int .i64 A0, .int .i64 A1, .int .i64 A2, .int .i64 A3, .slice b2 n' k2, .int .i64 A5] 42)))
    have R_24 := R_23.next (alloc_b (o := (.cells #[.int .i64 A0, .int .i64 A1, .int .i64 A2, .int .i64 A3, .slice b2 n' k2, .int .i64 A5] 42)))
    have S_24 := S_23.next (alloc_b (o := (.cells #[.int .i64 A0, .int .i64 A1, .int .i64 A2, .int .i64 A3, .slice b2 n' k2, .int .i64 A5] 42)))
    clear B_23 A_23 M_23 K_23 C_23 F_23 N_23 J_23 E_23 G_23 R_23 S_23
    have B_25 := B_24.trans ((alloc_b (o := (.cells #[.int .i64 HH, .int .i64 XX, .slice ua2 M.length uc2] 57))).mono B_24.size)
    have A_25 := A_24.next (alloc_b (o := (.cells #[.int .i64 HH, .int .i64 XX, .slice ua2 M.length uc2] 57)))
    have M_25 := M_24.next (alloc_b (o := (.cells #[.int .i64 HH, .int .i64 XX, .slice ua2 M.length uc2] 57)))
    have K_25 := K_24.next (alloc_b (o := (.cells #[.int .i64 HH, .int .i64 XX, .slice ua2 M.length uc2] 57)))
    have C_25 := C_24.next (alloc_b (o := (.cells #[.int .i64 HH, .int .i64 XX, .slice ua2 M.length uc2] 57)))
    have F_25 := F_24.next (alloc_b (o := (.cells #[.int .i64 HH, .int .i64 XX, .slice ua2 M.length uc2] 57)))
    have N_25 := N_24.next (alloc_b (o := (.cells #[.int .i64 HH, .int .i64 XX, .slice ua2 M.length uc2] 57)))
    have J_25 := J_24.next (alloc_b (o := (.cells #[.int .i64 HH, .int .i64 XX, .slice ua2 M.length uc2] 57)))
    have E_25 := E_24.next (alloc_b (o := (.cells #[.int .i64 HH, .int .i64 XX, .slice ua2 M.length uc2] 57)))
    have G_25 := G_24.next (alloc_b (o := (.cells #[.int .i64 HH, .int .i64 XX, .slice ua2 M.length uc2] 57)))
    have R_25 := R_24.next (alloc_b (o := (.cells #[.int .i64 HH, .int .i64 XX, .slice ua2 M.length uc2] 57)))
    have S_25 := S_24.next (alloc_b (o := (.cells #[.int .i64 HH, .int .i64 XX, .slice ua2 M.length uc2] 57)))
    clear B_24 A_24 M_24 K_24 C_24 F_24 N_24 J_24 E_24 G_24 R_24 S_24
    have V_25 := C3.new (w32.alloc (.cells #[.int .i64 A0, .int .i64 A1, .int .i64 A2, .int .i64 A3, .slice b2 n' k2, .int .i64 A5] 42)) 57 (.int .i64 HH) (.int .i64 XX) (.slice ua2 M.length uc2)
    rw [World.size_alloc] at V_25
    obtain ⟨W33, hW33⟩ : ∃ W, (w32.alloc (.cells #[.int .i64 A0, .int .i64 A1, .int .i64 A2, .int .i64 A3, .slice b2 n' k2, .int .i64 A5] 42)).alloc (.cells #[.int .i64 HH, .int .i64 XX, .slice ua2 M.length uc2] 57) = W := ⟨_, rfl⟩
    rw [hW33] at B_25 A_25 M_25 K_25 C_25 F_25 N_25 J_25 E_25 G_25 R_25 S_25 V_25 ⊢
    clear hW33 B30 B31 B32 B2932 P30 X31 Y2 N2 Q8 Q9 hg30 e0 e1 e2 e3 e4 e5 eh r0 r1 r2 r3 r4 r5 rh t0 t1 t2 th
    go_wp2_with (go_at_call 25; (with_reducible show Calls Try.prog 25 _ W33 _); refine (eqcache A0 A1 A2 A3 A5 (.slice b2 n' k2) (.slice b0 n' k0) n' L' W33 R_25.arows M_25.arows hn' HL'.out).mono ?_; rintro e w34 ⟨rfl, Ba⟩; (have Q1 := V_25.next Ba); (have r0 := Q1.c0); (have r1 := Q1.c1); (have r2 := Q1.c2); (have rh := Q1.hi); (have Q2 := F_25.next Ba); (have t0 := Q2.c0); (have t1 := Q2.c1); (have t2 := Q2.c2); (have th := Q2.hi))
    clear Q1 Q2
    have ZS22 : Hid (W33.heap.size ≤ w34.heap.size) := Ba.size
    have B_26 := B_25.trans ((Ba).mono B_25.size)
    have A_26 := A_25.next (Ba)
    have M_26 := M_25.next (Ba)
    have K_26 := K_25.next (Ba)
    have C_26 := C_25.next (Ba)
    have F_26 := F_25.next (Ba)
    have N_26 := N_25.next (Ba)
    have J_26 := J_25.next (Ba)
    have E_26 := E_25.next (Ba)
    have G_26 := G_25.next (Ba)
    have R_26 := R_25.next (Ba)
    have S_26 := S_25.next (Ba)
    have V_26 := V_25.next (Ba)
    clear B_25 A_25 M_25 K_25 C_25 F_25 N_25 J_25 E_25 G_25 R_25 S_25 V_25
    clear Ba
    go_wp2_with (go_at_call 36; (with_reducible show Calls Try.prog 36 _ w34 _); refine (eqhits HH XX S_26 K_26 hMl).mono ?_; rintro e w35 ⟨rfl, Bb⟩; (have QE := E_26.next Bb); (have e0 := QE.c0); (have e1 := QE.c1); (have e2 := QE.c2); (have e3 := QE.c3); (have e4 := QE.c4); (have e5 := QE.c5); (have eh := QE.hi))
    clear r0 r1 r2 rh t0 t1 t2 th
    have ZS23 : Hid (w34.heap.size ≤ w35.heap.size) := Bb.size
    have B_27 := B_26.trans ((Bb).mono B_26.size)
    have A_27 := A_26.next (Bb)
    have M_27 := M_26.next (Bb)
    have K_27 := K_26.next (Bb)
    have C_27 := C_26.next (Bb)
    have F_27 := F_26.next (Bb)
    have N_27 := N_26.next (Bb)
    have J_27 := J_26.next (Bb)
    have E_27 := E_26.next (Bb)
    have G_27 := G_26.next (Bb)
    have R_27 := R_26.next (Bb)
    have S_27 := S_26.next (Bb)
    have V_27 := V_26.next (Bb)
    clear B_26 A_26 M_26 K_26 C_26 F_26 N_26 J_26 E_26 G_26 R_26 S_26 V_26
    clear Bb
    go_wp2_with (go_at_call 27; refine (HHC.out w35 N_27).mono ?_; rintro e w36 ⟨rfl, B36⟩; (have QG := G_27.next B36); (have t0 := QG.c0); (have t1 := QG.c1); (have t2 := QG.c2); (have th := QG.hi))
    have B_28 := B_27.trans ((B36).mono B_27.size)
    have A_28 := A_27.next (B36)
    have M_28 := M_27.next (B36)
    have K_28 := K_27.next (B36)
    have C_28 := C_27.next (B36)
    have F_28 := F_27.next (B36)
    have N_28 := N_27.next (B36)
    have J_28 := J_27.next (B36)
    have E_28 := E_27.next (B36)
    have G_28 := G_27.next (B36)
    have R_28 := R_27.next (B36)
    have S_28 := S_27.next (B36)
    have V_28 := V_27.next (B36)
    clear B_27 A_27 M_27 K_27 C_27 F_27 N_27 J_27 E_27 G_27 R_27 S_27 V_27
    go_wp2_with (go_at_call 38; refine (HHH.out w36 J_28).mono ?_; rintro e w37 ⟨rfl, B37⟩)
    go_ret
    exact ⟨rfl, B_28.trans (B37.mono B_28.size)⟩

set_option maxRecDepth 100000 in
theorem lifted (os : Os) (started : os.Started) (H : Type) (enc : TypeId × Value → H) :
    ReturnsInHanded {} Try.checked os 9 .any (Rows.fnExactCacheAllSpec.pre6 enc Try.prog Try.f9 Rows.fnExactCacheAllRow.domain false) (Rows.fnExactCacheAllSpec.post enc Try.prog Try.f9 false true false false) := by
  refine returnsInHanded_of_change (C := Try.checked) own started (by kernel_rfl) Try.func9
    (ChangeSpec.witness6 (enc := enc) (C := Try.checked) false ⟨#[], #[.agg #[.int .i64 0, .int .i64 0, .int .i64 0, .int .i64 0, .slice none 0 0, .int .i64 0], .slice none 0 0], []⟩ 8 (by kernel_rfl) (by kernel_rfl) (by kernel_rfl) (by kernel_rfl)) ?_
  intro W base args ds gs before hval0 hW hcnd _
  have hval : ∀ (j : Nat) t v, Try.f9.params[j]? = some t → args[j]? = some v → Value.okWide Try.prog W .any base t v := hval0
  have hW' := hW
  obtain ⟨p, q, hA0, hV, rfl, hfz, hnd⟩ := hW
  have hA : DataW.TrodAll enc Try.prog W 0 (fun _ => true) true Try.f9.params.toList args.toList ds p := hA0
  rw [Try.params9] at hA hval
  obtain ⟨v0, vs0, d0, ds0, p0, q0, hargs, rfl, rfl, h0, r0⟩ := trodAll_cons hA
  obtain ⟨v1, vs1, d1, ds1, p1, q1, rfl, rfl, rfl, h1, r1⟩ := trodAll_cons r0
  obtain ⟨rfl, rfl, rfl⟩ := trodAll_nil r1
  obtain rfl : args = #[v0, v1] := by cases args; simp_all
  obtain ⟨rfl, rfl⟩ := trodVars_none hV
  simp only [List.append_nil] at hW'
  have k0 := h0
  have lt0 : ∀ x ∈ p0, x.block < W.heap.size := fun x hx => by have := hW'.lt x (by simp [hx]); simpa using this
  obtain ⟨s, y, l, q, c, ad, n, cp, f, rfl, mn, R, mf⟩ := viewC Try.underlying48 (by kernel_rfl) rfl rfl rfl rfl rfl rfl (by kernel_rfl) (by kernel_rfl) (by kernel_rfl) (by kernel_rfl) (by kernel_rfl) (by kernel_rfl) Try.underlying3 Try.underlying3 Try.underlying3 Try.underlying3 Try.underlying40 Try.underlying23 Try.underlying3 (by kernel_rfl) (by kernel_rfl) Try.underlying3 (hval 0 48 v0 rfl rfl) h0
  have arg0 : ∀ (W' : World), Below W.heap.size W W' → DataW.Trod enc Try.prog W' 0 (fun b => decide (b < W.heap.size)) true 48 (.agg #[.int .i64 s, .int .i64 y, .int .i64 l, .int .i64 q, .slice ad n cp, .int .i64 c]) d0 p0 := fun W' hn => Below.trod laidOut (by kernel_rfl) (of_decide_eq_true (by kernel_rfl)) k0 hn lt0
  have k1 := h1
  have lt1 : ∀ x ∈ p1, x.block < W.heap.size := fun x hx => by have := hW'.lt x (by simp [hx]); simpa using this
  obtain ⟨s1, n1, c1, f1, rfl, m1, A1, z1⟩ := view_ints Try.underlying23 Try.underlying3 (by kernel_rfl) (hval 1 23 v1 rfl rfl) h1 lt1
  have arg1 : ∀ (W' : World), Below W.heap.size W W' → DataW.Trod enc Try.prog W' 0 (fun b => decide (b < W.heap.size)) true 23 (.slice s1 n1 c1) d1 p1 := fun W' hn => Below.trod laidOut (by kernel_rfl) (of_decide_eq_true (by kernel_rfl)) k1 hn lt1
  clear hA0 hval0
  refine (walk W s y l q c ad n cp f mn R mf s1 n1 c1 f1 m1 A1 z1).mono fun e W' ⟨he, hg⟩ => ?_
  subst he
  refine ⟨_, rfl, _, _, _, [], p0 ++ (p1 ++ []), [], hW', (trodAll_cons_mk (shut_bool Try.underlying4 _) trodAll_mk0), (trodAll_cons_mk (arg0 _ hg) (trodAll_cons_mk (arg1 _ hg) trodAll_mk0)), rfl, hg.frame _, fun h => by cases h⟩
theorem over : Rows.fnExactCacheAllRow.holds Try.pinned (OpenSpec.ofChange Rows.fnExactCacheAllSpec) :=
  OpenClaim.holds_of_wide 9 Try.f9 rfl rfl rfl rfl rfl rfl rfl ⟨rfl, rfl, rfl, rfl, rfl⟩ rfl rfl rfl rfl rfl (by kernel_rfl) Try.func9 (by kernel_rfl)
    (of_decide_eq_true (by kernel_rfl)) (by unfold Func.isWrapper; first | (rw [if_pos (by decide +kernel)]; kernel_rfl) | (rw [if_neg (by decide +kernel)]; exact ⟨rfl, rfl⟩))
    (fun os started H enc _ => lifted os started H enc)
end Go.Proofs.Ytfhpjcojccfcoaa.fnExactCacheAll
namespace Go.Proofs.Ytfhpjcojccfcoaa
theorem cacheAll : Rows.FnExactCacheAllSaid := fnExactCacheAll.over
#print axioms cacheAll
end Go.Proofs.Ytfhpjcojccfcoaa
