/- Screens that are answered: compared, marked, held. -/
import Derived.Test.YtkngjngmalogaaaEb
namespace Go.Proofs.Ytkngjngmalogaaa
open Go.ChangeShapes Go.WideShapes Go.ChangeAt Go.RowKit
set_option linter.unusedVariables false
set_option maxHeartbeats 2000000 in
set_option maxRecDepth 100000 in
theorem markI {w : World} {o n : Nat} {f : Nat → Int} (R : Own w o n (fun i => .int .i64 (f i))) (c k0 : Nat) (hn : n ≤ 1048576) (hk0 : k0 ≤ 8000000) :
    Calls Try.prog 24 #[.slice (some ⟨o, 0, none⟩) n c, .int .i64 (k0 : Int)] w fun r w' => r = .returned (.int .i64 ((k0 + n : Nat) : Int)) ∧ Own w' o n (fun i => .int .i64 ((k0 + i : Nat) : Int)) ∧ Only o w w' := by
  go_enter Try.func24, Try.ntmps24
  go_wp2
  go_loopw [1, 5] (fun l i wr => ∃ k : Nat, k ≤ n ∧ i = .int .i64 k ∧ l = .int .i64 ((k0 + k : Nat) : Int) ∧ Own wr o n (fun j => .int .i64 (if j < k then ((k0 + j : Nat) : Int) else f j)) ∧ Only o w wr) (fun _ i _ => n - (intOf i).toNat)
  case atStart => exact ⟨0, by omega, rfl, rfl, R.mono (Nat.le_refl _) (fun j _ => by simp), Only.refl _ _⟩
  case round =>
    obtain ⟨k, hk, rfl, rfl, RK, OK⟩ := hrel
    by_cases hkn : k < n
    · have i1 : (k : Int) < (n : Int) := by omega
      have i0 : (0 : Int) ≤ (k : Int) := by omega
      have RN : Hid (Own (wr.setCell ⟨o, k, none⟩ (.int .i64 ((k0 + k : Nat) : Int))) o n (fun j => .int .i64 (if j < k + 1 then ((k0 + j : Nat) : Int) else f j))) := RK.set k _ hkn (fun j hj => by
        by_cases e : j = k
        · subst e; simp
        · rw [if_neg e]
          by_cases e2 : j < k
          · rw [if_pos e2, if_pos (by omega)]
          · rw [if_neg e2, if_neg (by omega)])
      have ON : Hid (Only o w (wr.setCell ⟨o, k, none⟩ (.int .i64 ((k0 + k : Nat) : Int)))) := OK.setCell k _
      have g := RK.cell k hkn
      rw [if_neg (Nat.lt_irrefl k)] at g
      have fr := RK.free k
      obtain ⟨M, hM⟩ : ∃ M : Nat, k0 + k = M := ⟨_, rfl⟩
      have M0 : M ≤ 9048576 := by omega
      have HM := Hid.mk hM
      rw [hM] at RN ON ⊢
      clear hM RK OK
      go_wp2
      go_roundw
      case rel => exact ⟨k + 1, by omega, by go_num, by have := HM.out; congr 1; omega, RN.out, ON.out⟩
      case measure => simp [intOf]; omega
    · obtain rfl : n = k := by omega
      have i1 : ¬ (n : Int) < (n : Int) := by omega
      go_wp2
      go_ret
      exact ⟨rfl, RK.mono (Nat.le_refl _) (fun j hj => by simp [hj]), OK⟩
set_option maxRecDepth 100000 in
theorem markI0 (a : Option Addr) (c k0 : Nat) (w : World) : Calls Try.prog 24 #[.slice a 0 c, .int .i64 (k0 : Int)] w fun r w' => r = .returned (.int .i64 (k0 : Int)) ∧ w' = w := by
  go_enter Try.func24, Try.ntmps24
  go_wp2
  refine wp_loop_rounds 1 ?_
  rw [rounds_succ]
  go_wp2
  go_ret
  exact ⟨rfl, rfl⟩
theorem markIV {w : World} {v : Value} {n : Nat} {f : Nat → Int} (R : IV w v n f) (k0 : Nat) (hn : n ≤ 1048576) (hk0 : k0 ≤ 8000000) :
    Calls Try.prog 24 #[v, .int .i64 (k0 : Int)] w fun r w' => r = .returned (.int .i64 ((k0 + n : Nat) : Int)) ∧ IV w' v n (fun i => ((k0 + i : Nat) : Int)) ∧ w.grownBy w' v.ownBlock := by
  rcases R with ⟨rfl, rfl⟩ | ⟨o, c, rfl, R⟩
  · exact (markI0 none 0 k0 w).mono fun e w' ⟨h1, h2⟩ => ⟨h1, Or.inl ⟨rfl, rfl⟩, by rw [h2]; exact grown_below (Below.refl _ _) _⟩
  · exact (markI R c k0 hn hk0).mono fun e w' ⟨h1, h2, h3⟩ => ⟨h1, Or.inr ⟨o, c, rfl, h2⟩, only_grown h3⟩
set_option maxHeartbeats 2000000 in
set_option maxRecDepth 100000 in
theorem heldI {w : World} {o n k0 : Nat} (R : Own w o n (fun i => .int .i64 ((k0 + i : Nat) : Int))) (c : Nat) (hn : n ≤ 1048576) (hk0 : k0 ≤ 8000000) :
    Calls Try.prog 26 #[.slice (some ⟨o, 0, none⟩) n c, .int .i64 (k0 : Int)] w fun r w' => r = .returned (.int .i64 ((k0 + n : Nat) : Int)) ∧ Below w.heap.size w w' := by
  go_enter Try.func26, Try.ntmps26
  go_wp2
  go_loopw [1, 5] (fun l i wx => ∃ k : Nat, k ≤ n ∧ i = .int .i64 k ∧ l = .int .i64 ((k0 + k : Nat) : Int) ∧ Below w.heap.size w wx) (fun _ i _ => n - (intOf i).toNat)
  case atStart => exact ⟨0, by omega, rfl, rfl, Below.refl _ _⟩
  case round =>
    obtain ⟨k, hk, rfl, rfl, B⟩ := hrel
    by_cases hkn : k < n
    · have i1 : (k : Int) < (n : Int) := by omega
      have i0 : (0 : Int) ≤ (k : Int) := by omega
      have g := cell_nx (R.cell k hkn) B
      obtain ⟨M, hM⟩ : ∃ M : Nat, k0 + k = M := ⟨_, rfl⟩
      have M0 : M ≤ 9048576 := by omega
      have HM := Hid.mk hM
      rw [hM] at g ⊢
      clear hM R
      go_wp2
      go_roundw
      case rel => exact ⟨k + 1, by omega, by go_num, by have := HM.out; congr 1; omega, B⟩
      case measure => simp [intOf]; omega
    · obtain rfl : n = k := by omega
      have i1 : ¬ (n : Int) < (n : Int) := by omega
      go_wp2
      go_ret
      exact ⟨rfl, B⟩
set_option maxRecDepth 100000 in
theorem heldI0 (a : Option Addr) (c k0 : Nat) (w : World) : Calls Try.prog 26 #[.slice a 0 c, .int .i64 (k0 : Int)] w fun r w' => r = .returned (.int .i64 (k0 : Int)) ∧ w' = w := by
  go_enter Try.func26, Try.ntmps26
  go_wp2
  refine wp_loop_rounds 1 ?_
  rw [rounds_succ]
  go_wp2
  go_ret
  exact ⟨rfl, rfl⟩
theorem heldIV {w : World} {v : Value} {n k0 : Nat} (R : IV w v n (fun i => ((k0 + i : Nat) : Int))) (hn : n ≤ 1048576) (hk0 : k0 ≤ 8000000) :
    Calls Try.prog 26 #[v, .int .i64 (k0 : Int)] w fun r w' => r = .returned (.int .i64 ((k0 + n : Nat) : Int)) ∧ Below w.heap.size w w' := by
  rcases R with ⟨rfl, rfl⟩ | ⟨o, c, rfl, R⟩
  · exact (heldI0 none 0 k0 w).mono fun e w' ⟨h1, h2⟩ => ⟨h1, by rw [h2]; exact Below.refl _ _⟩
  · exact heldI R c hn hk0
theorem IV.next {w w' : World} {v : Value} {n : Nat} {f : Nat → Int} (h : IV w v n f) (b : Below w.heap.size w w') : IV w' v n f := by
  rcases h with h | ⟨o, c, e, O⟩
  · exact Or.inl h
  · exact Or.inr ⟨o, c, e, O.next b⟩
theorem IV.is {w : World} {v : Value} {n : Nat} {f : Nat → Int} (R : IV w v n f) : ∃ a l c, v = .slice a l c := by
  rcases R with ⟨_, rfl⟩ | ⟨o, c, rfl, _⟩
  · exact ⟨_, _, _, rfl⟩
  · exact ⟨_, _, _, rfl⟩
theorem IV.grown {w w' : World} {v : Value} {n : Nat} {f : Nat → Int} {row : Option Nat} (h : IV w v n f) (hb : w.grownBy w' row) (hne : v.ownBlock = none ∨ v.ownBlock ≠ row) : IV w' v n f := by
  rcases h with h | ⟨o, c, rfl, O⟩
  · exact Or.inl h
  · refine Or.inr ⟨o, c, rfl, ?_⟩
    have hz := O.hi
    have hn : some o ≠ row := by simpa [Value.ownBlock] using hne
    have b := hb.block o hz hn
    exact ⟨fun i hi => (World.cell?_of_block (w := w) (a := ⟨o, i, none⟩) b).trans (O.cell i hi), fun i => (World.frozen?_of_block (w := w) (a := ⟨o, i, none⟩) b).trans (O.free i), Nat.lt_of_lt_of_le hz hb.size⟩
theorem IV.arow {w : World} {v : Value} {n : Nat} {f : Nat → Int} (h : IV w v n f) : ARow w v (fl f n) := by
  rcases h with ⟨rfl, rfl⟩ | ⟨o, c, rfl, O⟩
  · exact ⟨none, 0, by rw [fl_len], fun i hi => absurd hi (by rw [fl_len]; exact Nat.not_lt_zero _)⟩
  · exact own_arow O
/-- Nothing has changed but two blocks, and what is new. -/
structure But2 (x z : Option Nat) (w w' : World) : Prop where
  os : w'.os = w.os
  tape : w'.tape = w.tape
  output : w'.output = w.output
  size : w.heap.size ≤ w'.heap.size
  block : ∀ i, i < w.heap.size → some i ≠ x → some i ≠ z → w'.heap[i]? = w.heap[i]?
theorem But2.below {x z : Option Nat} {w w' : World} {B : Nat} (h : But2 x z w w') (hB : B ≤ w.heap.size) (hx : ∀ g, x = some g → B ≤ g) (hz : ∀ g, z = some g → B ≤ g) : Below B w w' := ⟨h.os, h.tape, h.output, h.size, fun i hi => h.block i (by omega) (fun e => by have := hx i e.symm; omega) (fun e => by have := hz i e.symm; omega)⟩
theorem C4.but2 {x z : Option Nat} {w w' : World} {b : Nat} {v0 v1 v2 v3 : Value} (h : C4 w b v0 v1 v2 v3) (k : But2 x z w w') (hx : some b ≠ x) (hz : some b ≠ z) : C4 w' b v0 v1 v2 v3 := h.block (k.block b h.hi hx hz) k.size
theorem RowHV.low {w w' : World} {v : Value} {n B : Nat} {F0 F1 F2 F3 : Nat → Int} (h : RowHV w v n F0 F1 F2 F3) (b : Below B w w') (hv : ∀ g, v.ownBlock = some g → g < B) : RowHV w' v n F0 F1 F2 F3 := by
  rcases h with h | ⟨o, c, rfl, R⟩
  · exact Or.inl h
  · have ho := hv o rfl
    have e := b.block o ho
    exact Or.inr ⟨o, c, rfl, ⟨fun i hi => (World.cell?_of_block (w := w) (a := ⟨o, i * 4, none⟩) e).trans (R.c0 i hi), fun i hi => (World.cell?_of_block (w := w) (a := ⟨o, i * 4 + 1, none⟩) e).trans (R.c1 i hi), fun i hi => (World.cell?_of_block (w := w) (a := ⟨o, i * 4 + 2, none⟩) e).trans (R.c2 i hi), fun i hi => (World.cell?_of_block (w := w) (a := ⟨o, i * 4 + 3, none⟩) e).trans (R.c3 i hi), fun i => (World.frozen?_of_block (w := w) (a := ⟨o, i, none⟩) e).trans (R.free i), Nat.lt_of_lt_of_le R.hi b.size⟩⟩
theorem IV.low {w w' : World} {v : Value} {n B : Nat} {f : Nat → Int} (h : IV w v n f) (b : Below B w w') (hv : ∀ g, v.ownBlock = some g → g < B) : IV w' v n f := by
  rcases h with h | ⟨o, c, rfl, O⟩
  · exact Or.inl h
  · have e := b.block o (hv o rfl)
    exact Or.inr ⟨o, c, rfl, ⟨fun i hi => (World.cell?_of_block (w := w) (a := ⟨o, i, none⟩) e).trans (O.cell i hi), fun i => (World.frozen?_of_block (w := w) (a := ⟨o, i, none⟩) e).trans (O.free i), Nat.lt_of_lt_of_le O.hi b.size⟩⟩
set_option maxRecDepth 100000 in
set_option maxHeartbeats 2000000 in
theorem markScr (sw sh : Int) (x z : Value) (n : Nat) {F0 F1 F2 F3 f : Nat → Int} (w : World) (X : RowHV w x n F0 F1 F2 F3) (Z : IV w z n f) (hn : n ≤ 1048576) (hxz : ∀ g, x.ownBlock = some g → z.ownBlock ≠ some g) : Calls Try.prog 9 #[.agg #[.int .i64 sw, .int .i64 sh, x, z], .int .i64 1] w fun r w' => r = .returned (.int .i64 ((1 + 4 * n + n : Nat) : Int)) ∧ RowHV w' x n mkH0 mkH1 mkH2 mkH3 ∧ IV w' z n (fun i => ((1 + 4 * n + i : Nat) : Int)) ∧ But2 x.ownBlock z.ownBlock w w' := by
  have HA : Hid (Below w.heap.size w (w.alloc (.cells #[.int .i64 sw, .int .i64 sh, x, z] 27))) := alloc_b
  have SB := C4.new w 27 (.int .i64 sw) (.int .i64 sh) x z
  have HX : Hid (Calls Try.prog 23 #[x, .int .i64 1] (w.alloc (.cells #[.int .i64 sw, .int .i64 sh, x, z] 27)) fun r w' => r = .returned (.int .i64 ((1 + 4 * n : Nat) : Int)) ∧ RowHV w' x n mkH0 mkH1 mkH2 mkH3 ∧ (w.alloc (.cells #[.int .i64 sw, .int .i64 sh, x, z] 27)).grownBy w' x.ownBlock) := markHV (X.next alloc_b) hn
  have HZ : Hid (∀ w', IV w' z n f → Calls Try.prog 24 #[z, .int .i64 ((1 + 4 * n : Nat) : Int)] w' fun r w'' => r = .returned (.int .i64 ((1 + 4 * n + n : Nat) : Int)) ∧ IV w'' z n (fun i => ((1 + 4 * n + i : Nat) : Int)) ∧ w'.grownBy w'' z.ownBlock) := fun w' I => markIV I (1 + 4 * n) hn (by omega)
  have ZA := Hid.mk (Z.next (alloc_b (o := .cells #[.int .i64 sw, .int .i64 sh, x, z] 27)))
  have hx := X.lt
  have hz : ∀ g, z.ownBlock = some g → g < w.heap.size := fun g hg => by
    rcases Z with ⟨_, rfl⟩ | ⟨o, c, rfl, O⟩
    · simp [Value.ownBlock] at hg
    · simp [Value.ownBlock] at hg; subst hg; exact O.hi
  have HFR : Hid (∀ w2 w3 : World, (w.alloc (.cells #[.int .i64 sw, .int .i64 sh, x, z] 27)).grownBy w2 x.ownBlock → w2.grownBy w3 z.ownBlock → RowHV w2 x n mkH0 mkH1 mkH2 mkH3 → RowHV w3 x n mkH0 mkH1 mkH2 mkH3 ∧ But2 x.ownBlock z.ownBlock w w3) := fun w2 w3 g2 g3 R2 => by
    refine ⟨R2.grown g3 ?_, ?_⟩
    · cases e : x.ownBlock with
      | none => exact Or.inl rfl
      | some q => exact Or.inr (fun e2 => hxz q e e2.symm)
    · have b0 := HA.out
      refine ⟨(g3.os.trans g2.os).trans b0.os, (g3.tape.trans g2.tape).trans b0.tape, (g3.output.trans g2.output).trans b0.output, Nat.le_trans b0.size (Nat.le_trans g2.size g3.size), fun i hi h1 h2 => ?_⟩
      have s0 := b0.size
      have s2 := g2.size
      exact ((g3.block i (by omega) h2).trans (g2.block i (by omega) h1)).trans (b0.block i hi)
  have HZI : Hid (∀ w2 : World, (w.alloc (.cells #[.int .i64 sw, .int .i64 sh, x, z] 27)).grownBy w2 x.ownBlock → IV w2 z n f ∧ C4 w2 w.heap.size (.int .i64 sw) (.int .i64 sh) x z) := fun w2 g2 => by
    refine ⟨ZA.out.grown g2 ?_, SB.block (g2.block _ SB.hi (fun e => by have := hx _ e.symm; omega)) g2.size⟩
    cases e : z.ownBlock with
    | none => exact Or.inl rfl
    | some q => exact Or.inr (fun e2 => hxz q e2.symm e)
  obtain ⟨ax, lx, cx, rfl⟩ := X.is
  obtain ⟨az, lz, cz, rfl⟩ := Z.is
  generalize 1 + 4 * n = m4 at HX HZ ⊢
  generalize (Value.slice ax lx cx).ownBlock = ox at HX HFR HZI ⊢
  generalize (Value.slice az lz cz).ownBlock = oz at HZ HFR ⊢
  clear X Z SB ZA hx hz hxz
  go_enter Try.func9, Try.ntmps9
  go_wp2_with (first | (go_at_call 23; refine HX.out.mono ?_; rintro e w2 ⟨rfl, R2, g2⟩; (obtain ⟨I2, S2⟩ := HZI.out w2 g2); (have R2 := Hid.mk R2); (have I2 := Hid.mk I2); (have s2 := S2.c2); (have s3 := S2.c3)) | (go_at_call 24; refine (HZ.out _ I2.out).mono ?_; rintro e w3 ⟨rfl, I3, g3⟩))
  obtain ⟨R3, F3⟩ := HFR.out _ _ g2 g3 R2.out
  clear R2 I2 HX HZ HFR HZI
  go_ret
  exact ⟨rfl, R3, I3, F3⟩
set_option maxRecDepth 100000 in
set_option maxHeartbeats 2000000 in
theorem heldScr (sw sh : Int) (x z : Value) (n : Nat) (w : World) (X : RowHV w x n mkH0 mkH1 mkH2 mkH3) (Z : IV w z n (fun i => ((1 + 4 * n + i : Nat) : Int))) (hn : n ≤ 1048576) : Calls Try.prog 10 #[.agg #[.int .i64 sw, .int .i64 sh, x, z], .int .i64 1] w fun r w' => r = .returned (.int .i64 ((1 + 4 * n + n : Nat) : Int)) ∧ Below w.heap.size w w' := by
  have HA : Hid (Below w.heap.size w (w.alloc (.cells #[.int .i64 sw, .int .i64 sh, x, z] 27))) := alloc_b
  have HS : Hid (∀ w', Below (w.alloc (.cells #[.int .i64 sw, .int .i64 sh, x, z] 27)).heap.size (w.alloc (.cells #[.int .i64 sw, .int .i64 sh, x, z] 27)) w' → C4 w' w.heap.size (.int .i64 sw) (.int .i64 sh) x z ∧ Below w.heap.size w w') := fun w' b => ⟨(C4.new w 27 (.int .i64 sw) (.int .i64 sh) x z).next b, HA.out.trans (b.mono HA.out.size)⟩
  have HX : Hid (Calls Try.prog 25 #[x, .int .i64 1] (w.alloc (.cells #[.int .i64 sw, .int .i64 sh, x, z] 27)) fun r w' => r = .returned (.int .i64 ((1 + 4 * n : Nat) : Int)) ∧ Below (w.alloc (.cells #[.int .i64 sw, .int .i64 sh, x, z] 27)).heap.size (w.alloc (.cells #[.int .i64 sw, .int .i64 sh, x, z] 27)) w') := heldHV (X.next alloc_b) hn
  have HZ : Hid (∀ w', Below w.heap.size w w' → Calls Try.prog 26 #[z, .int .i64 ((1 + 4 * n : Nat) : Int)] w' fun r w'' => r = .returned (.int .i64 ((1 + 4 * n + n : Nat) : Int)) ∧ Below w'.heap.size w' w'') := fun w' b => heldIV (Z.next b) hn (by omega)
  obtain ⟨ax, lx, cx, rfl⟩ := X.is
  obtain ⟨az, lz, cz, rfl⟩ := Z.is
  have m1 : (0 : Int) ≤ ((1 + 4 * n : Nat) : Int) := by omega
  generalize 1 + 4 * n = m4 at HX HZ m1 ⊢
  have m2 : (0 : Int) ≤ ((m4 + n : Nat) : Int) := by omega
  generalize m4 + n = m5 at HZ m2 ⊢
  have m3 : ¬ (m4 : Int) < 0 := by omega
  have m6 : ¬ (m5 : Int) < 0 := by omega
  clear X Z
  go_enter Try.func10, Try.ntmps10
  go_wp2_with (first | (go_at_call 25; refine HX.out.mono ?_; rintro e w2 ⟨rfl, B2⟩; (obtain ⟨S2, BX2⟩ := HS.out w2 B2); (have s2 := S2.c2); (have s3 := S2.c3)) | (go_at_call 26; refine (HZ.out _ BX2).mono ?_; rintro e w3 ⟨rfl, B3⟩))
  go_ret
  exact ⟨rfl, BX2.trans (B3.mono BX2.size)⟩
set_option maxRecDepth 100000 in
set_option maxHeartbeats 2000000 in
theorem eqScrV (sw sh : Int) (x z x' z' : Value) (n : Nat) {F0 F1 F2 F3 f : Nat → Int} (w : World) (X : RowHV w x n F0 F1 F2 F3) (Z : IV w z n f) (X' : RowHV w x' n F0 F1 F2 F3) (Z' : IV w z' n f) (hn : n ≤ 1048576) : Calls Try.prog 8 #[.agg #[.int .i64 sw, .int .i64 sh, x, z], .agg #[.int .i64 sw, .int .i64 sh, x', z']] w fun r w' => r = .returned (.bool true) ∧ Below w.heap.size w w' := by
  have HE1 : Hid (∀ w', Below w.heap.size w w' → Calls Try.prog 21 #[x, x'] w' fun r w'' => r = .returned (.bool true) ∧ Below w'.heap.size w' w'') := fun w' b => eqRowHV (X.next b) (X'.next b) hn
  have HE2 : Hid (∀ w', Below w.heap.size w w' → Calls Try.prog 22 #[z, z'] w' fun r w'' => r = .returned (.bool true) ∧ Below w'.heap.size w' w'') := fun w' b => (eqA25 (by rw [fl_len]; exact hn) (Z.next b).arow (Z'.next b).arow).mono fun e w2 ⟨h1, q, h2⟩ => ⟨h1, by rw [h2]; exact below_drewN (Below.refl _ _) q⟩
  obtain ⟨ax, lx, cx, rfl⟩ := X.is
  obtain ⟨az, lz, cz, rfl⟩ := Z.is
  obtain ⟨bx, mx, dx, rfl⟩ := X'.is
  obtain ⟨bz, mz, dz, rfl⟩ := Z'.is
  clear X Z X' Z'
  have HB : Hid (Below w.heap.size w ((w.alloc (.cells #[.int .i64 sw, .int .i64 sh, .slice ax lx cx, .slice az lz cz] 27)).alloc (.cells #[.int .i64 sw, .int .i64 sh, .slice bx mx dx, .slice bz mz dz] 27))) := (alloc_b).trans ((alloc_b).mono (by simp))
  have HC : Hid (∀ w', Below ((w.alloc (.cells #[.int .i64 sw, .int .i64 sh, .slice ax lx cx, .slice az lz cz] 27)).alloc (.cells #[.int .i64 sw, .int .i64 sh, .slice bx mx dx, .slice bz mz dz] 27)).heap.size ((w.alloc (.cells #[.int .i64 sw, .int .i64 sh, .slice ax lx cx, .slice az lz cz] 27)).alloc (.cells #[.int .i64 sw, .int .i64 sh, .slice bx mx dx, .slice bz mz dz] 27)) w' → C4 w' w.heap.size (.int .i64 sw) (.int .i64 sh) (.slice ax lx cx) (.slice az lz cz) ∧ C4 w' (w.heap.size + 1) (.int .i64 sw) (.int .i64 sh) (.slice bx mx dx) (.slice bz mz dz)) := fun w' b => by
    have h0 := C4.new w 27 (.int .i64 sw) (.int .i64 sh) (.slice ax lx cx) (.slice az lz cz)
    have h1 := C4.new (w.alloc (.cells #[.int .i64 sw, .int .i64 sh, .slice ax lx cx, .slice az lz cz] 27)) 27 (.int .i64 sw) (.int .i64 sh) (.slice bx mx dx) (.slice bz mz dz)
    rw [World.size_alloc] at h1
    exact ⟨(h0.next alloc_b).next b, h1.next b⟩
  go_enter Try.func8, Try.ntmps8
  go_wp2_with (first
    | (go_at_call 21; refine (HE1.out _ HB.out).mono ?_; rintro e w2 ⟨rfl, B2⟩; obtain ⟨P2, Q2⟩ := HC.out _ B2; (have D2 := HB.out.trans (B2.mono HB.out.size)); clear HC; (have p0 := P2.c0); (have p1 := P2.c1); (have p2 := P2.c2); (have p3 := P2.c3); (have q0 := Q2.c0); (have q1 := Q2.c1); (have q2 := Q2.c2); (have q3 := Q2.c3))
    | (go_at_call 22; refine (HE2.out _ D2).mono ?_; rintro e w3 ⟨rfl, B3⟩))
  go_ret
  exact ⟨rfl, D2.trans (B3.mono D2.size)⟩
end Go.Proofs.Ytkngjngmalogaaa
