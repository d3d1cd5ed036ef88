/- Hits.count; what stays of a cache's lines where other blocks change. -/
import Derived.Test.YtfhpjcojccfcoaaPs
namespace Go.Proofs.Ytfhpjcojccfcoaa
open Go.ChangeShapes Go.WideShapes Go.ChangeAt Go.RowKit
set_option linter.unusedVariables false
/-- Only the struct in block hb and its row have changed. -/
structure Ct (hb : Nat) (u u' : Value) (w w' : World) : Prop where
  os : w'.os = w.os
  tape : w'.tape = w.tape
  output : w'.output = w.output
  size : w.heap.size ≤ w'.heap.size
  block : ∀ k, k < w.heap.size → k ≠ hb → some k ≠ u.ownBlock → w'.heap[k]? = w.heap[k]?
  own : ∀ q, u'.ownBlock = some q → u.ownBlock = some q ∨ w.heap.size ≤ q
/-- A cache's lines stay where they are not among what changed. -/
theorem Kx.ct {B hb lb gm m : Nat} {u u' : Value} {w w' : World} {U : Nat → Value} {L : Nat → List Int} (h : Kx B w lb gm m U L) (c : Ct hb u u' w w') (h1 : lb ≠ hb) (h2 : gm ≠ hb) (h3 : some lb ≠ u.ownBlock) (h4 : some gm ≠ u.ownBlock) (h5 : ∀ x, x < m → ∀ q, (U x).ownBlock = some q → q ≠ hb ∧ some q ≠ u.ownBlock) : Kx B w' lb gm m U L := by
  have bg := c.block gm h.hg h2 h4
  refine ⟨fun x hx => (World.cell?_of_block (w := w) (a := ⟨gm, x, none⟩) bg).trans (h.c x hx), fun x hx => ?_, h.ap, h.ng, h.nh, h.gh, fun i => (World.frozen?_of_block (w := w) (a := ⟨gm, i, none⟩) bg).trans (h.f i), by have := h.hg; have := c.size; omega, by have := h.hh; have := c.size; omega, h.bg, h.bh⟩
  have R := h.r x hx
  refine ⟨⟨R.1.1, ?_⟩, Nat.le_trans R.2 c.size⟩
  rcases R.1.2 with e | ⟨g, cap, cur, e1, e2, e3, e4⟩
  · exact Or.inl e
  · have ho : (U x).ownBlock = some g := by rw [e1]; rfl
    have hh := h5 x hx g ho
    exact Or.inr ⟨g, cap, cur, e1, e2, (c.block g (h.lt x hx g ho).2 hh.1 hh.2).trans e3, e4⟩
set_option maxRecDepth 100000 in
set_option maxHeartbeats 1000000 in
theorem pcount (B hb : Nat) (a b x : Int) (u : Value) (M : List Int) (hit : Bool) (w : World) (C : C3 w hb (.int .i64 a) (.int .i64 b) u) (R : Ri B w u M) (hu : u.ownBlock ≠ some hb) (a0 : 0 ≤ a) (a1 : a ≤ 100000) (b0 : 0 ≤ b) (b1 : b ≤ 100000) (hM : M.length ≤ 1000) : Calls Try.prog 69 #[.pointer (some ⟨hb, 0, none⟩), .bool hit, .int .i64 x] w fun e w' => e = .returned (.tuple #[]) ∧ ∃ u', C3 w' hb (.int .i64 (if hit = true then a + 1 else a)) (.int .i64 (if hit = true then b else b + 1)) u' ∧ Ri B w' u' (if x = -1 then M else M ++ [x]) ∧ u'.ownBlock ≠ some hb ∧ Ct hb u u' w w' := by
  obtain ⟨i3, hi3, hz30, hz31, hz32⟩ := info_parts info3
  obtain ⟨au, cu, hu0, _⟩ := R.arow
  have q0 := C.c0
  have q1 := C.c1
  have q2 := C.c2
  have f0 := C.f 0
  have f1 := C.f 1
  have f2 := C.f 2
  subst hu0
  by_cases hx : x = -1
  · rw [if_pos hx]
    have hxB : (x == -1) = true := beq_iff_eq.2 hx
    subst hx
    cases hit
    · rw [if_neg (by decide), if_neg (by decide)]
      have C1 := C.s1 (.int .i64 (b + 1))
      have O1 : Only hb w (w.setCell ⟨hb, 1, none⟩ (.int .i64 (b + 1))) := (Only.refl _ _).setCell _ _
      have R1 := R.grown (r := some hb) ⟨O1.os, O1.tape, O1.output, O1.size, fun k hk hne => O1.block k hk (fun q => hne (by rw [q]))⟩ (Or.inr hu)
      go_enter Try.func69, Try.ntmps69
      go_wp2
      go_end0
      exact ⟨rfl, _, C1, R1, hu, O1.os, O1.tape, O1.output, O1.size, fun k hk h1 _ => O1.block k hk h1, fun q hq => Or.inl hq⟩
    · rw [if_pos rfl, if_pos rfl]
      have C1 := C.s0 (.int .i64 (a + 1))
      have O1 : Only hb w (w.setCell ⟨hb, 0, none⟩ (.int .i64 (a + 1))) := (Only.refl _ _).setCell _ _
      have R1 := R.grown (r := some hb) ⟨O1.os, O1.tape, O1.output, O1.size, fun k hk hne => O1.block k hk (fun q => hne (by rw [q]))⟩ (Or.inr hu)
      go_enter Try.func69, Try.ntmps69
      go_wp2
      go_end0
      exact ⟨rfl, _, C1, R1, hu, O1.os, O1.tape, O1.output, O1.size, fun k hk h1 _ => O1.block k hk h1, fun q hq => Or.inl hq⟩
  · rw [if_neg hx]
    cases hit
    · rw [if_neg (by decide), if_neg (by decide)]
      have C1 := C.s1 (.int .i64 (b + 1))
      have O1 : Only hb w (w.setCell ⟨hb, 1, none⟩ (.int .i64 (b + 1))) := (Only.refl _ _).setCell _ _
      have R1 := R.grown (r := some hb) ⟨O1.os, O1.tape, O1.output, O1.size, fun k hk hne => O1.block k hk (fun q => hne (by rw [q]))⟩ (Or.inr hu)
      have p2 := C1.c2
      have CH := Hid.mk C1
      have RH := Hid.mk R1
      have OH := Hid.mk O1
      have hsz : (w.setCell ⟨hb, 1, none⟩ (.int .i64 (b + 1))).heap.size = w.heap.size := by simp
      have HAR : Hid (ARow ((w.setCell ⟨hb, 1, none⟩ (.int .i64 (b + 1))).alloc (.cells #[.int .i64 x] 3)) (.slice (some ⟨w.heap.size, 0, none⟩) 1 1) [x]) := by have h := ARow.one (w.setCell ⟨hb, 1, none⟩ (.int .i64 (b + 1))) x; rw [hsz] at h; exact h
      clear C1 R1 O1 R hsz
      go_enter Try.func69, Try.ntmps69
      go_wp2_with (at_builtin; refine wpList_append_ri _ _ Try.underlying23 hi3 hz30 hz31 hz32 rfl rfl rfl rfl (RH.out.alloc (.cells #[.int .i64 x] 3)) HAR.out (by simp only [List.length_cons, List.length_nil]; omega) ?_)
      intro v5 w5 R5 G5 A5
      have C5 := (CH.out.next (alloc_b (o := .cells #[.int .i64 x] 3))).block (G5.block hb (by rw [World.size_alloc]; have := CH.out.hi; omega) (fun e => hu e.symm)) G5.size
      have f2 := C5.f 2
      have q2 := C5.c2
      have q1 := C5.c1
      have q0 := C5.c0
      have v5hb : v5.ownBlock ≠ some hb := fun e => by
        rcases A5 with h | h
        · rw [h] at e; exact hu e
        · rw [h] at e; injection e with e; have := C.hi; omega
      have O6 : Only hb w5 (w5.setCell ⟨hb, 2, none⟩ v5) := (Only.refl _ _).setCell _ _
      have C6 := C5.s2 v5
      have R6 := R5.grown (r := some hb) ⟨O6.os, O6.tape, O6.output, O6.size, fun k hk hne => O6.block k hk (fun q => hne (by rw [q]))⟩ (Or.inr v5hb)
      obtain ⟨a5, c5, hv5, _⟩ := id R5.arow
      have hv6 : v5 = .slice a5 (M.length + 1) c5 := by rw [hv5]; simp
      clear hv5
      subst hv6
      go_wp2
      go_end0
      refine ⟨rfl, _, C6, R6, v5hb, O6.os.trans (G5.os.trans OH.out.os), O6.tape.trans (G5.tape.trans OH.out.tape), O6.output.trans (G5.output.trans OH.out.output), ?_, fun k hk h1 h2 => ?_, fun q hq => ?_⟩
      · have h1 := G5.size; have h2 := O6.size; have h3 := OH.out.size; rw [World.size_alloc] at h1; omega
      · have h3 := OH.out.size
        exact (O6.block k (by have h1 := G5.size; rw [World.size_alloc] at h1; omega) h1).trans ((G5.block k (by rw [World.size_alloc]; omega) h2).trans (((alloc_b (v := (w.setCell ⟨hb, 1, none⟩ (.int .i64 (b + 1)))) (o := .cells #[.int .i64 x] 3)).block k (by omega)).trans (OH.out.block k hk h1)))
      · rcases A5 with h | h
        · rw [h] at hq; exact Or.inl hq
        · rw [h] at hq; injection hq with hq; exact Or.inr (by omega)
    · rw [if_pos rfl, if_pos rfl]
      have C1 := C.s0 (.int .i64 (a + 1))
      have O1 : Only hb w (w.setCell ⟨hb, 0, none⟩ (.int .i64 (a + 1))) := (Only.refl _ _).setCell _ _
      have R1 := R.grown (r := some hb) ⟨O1.os, O1.tape, O1.output, O1.size, fun k hk hne => O1.block k hk (fun q => hne (by rw [q]))⟩ (Or.inr hu)
      have p2 := C1.c2
      have CH := Hid.mk C1
      have RH := Hid.mk R1
      have OH := Hid.mk O1
      have hsz : (w.setCell ⟨hb, 0, none⟩ (.int .i64 (a + 1))).heap.size = w.heap.size := by simp
      have HAR : Hid (ARow ((w.setCell ⟨hb, 0, none⟩ (.int .i64 (a + 1))).alloc (.cells #[.int .i64 x] 3)) (.slice (some ⟨w.heap.size, 0, none⟩) 1 1) [x]) := by have h := ARow.one (w.setCell ⟨hb, 0, none⟩ (.int .i64 (a + 1))) x; rw [hsz] at h; exact h
      clear C1 R1 O1 R hsz
      go_enter Try.func69, Try.ntmps69
      go_wp2_with (at_builtin; refine wpList_append_ri _ _ Try.underlying23 hi3 hz30 hz31 hz32 rfl rfl rfl rfl (RH.out.alloc (.cells #[.int .i64 x] 3)) HAR.out (by simp only [List.length_cons, List.length_nil]; omega) ?_)
      intro v5 w5 R5 G5 A5
      have C5 := (CH.out.next (alloc_b (o := .cells #[.int .i64 x] 3))).block (G5.block hb (by rw [World.size_alloc]; have := CH.out.hi; omega) (fun e => hu e.symm)) G5.size
      have f2 := C5.f 2
      have q2 := C5.c2
      have q1 := C5.c1
      have q0 := C5.c0
      have v5hb : v5.ownBlock ≠ some hb := fun e => by
        rcases A5 with h | h
        · rw [h] at e; exact hu e
        · rw [h] at e; injection e with e; have := C.hi; omega
      have O6 : Only hb w5 (w5.setCell ⟨hb, 2, none⟩ v5) := (Only.refl _ _).setCell _ _
      have C6 := C5.s2 v5
      have R6 := R5.grown (r := some hb) ⟨O6.os, O6.tape, O6.output, O6.size, fun k hk hne => O6.block k hk (fun q => hne (by rw [q]))⟩ (Or.inr v5hb)
      obtain ⟨a5, c5, hv5, _⟩ := id R5.arow
      have hv6 : v5 = .slice a5 (M.length + 1) c5 := by rw [hv5]; simp
      clear hv5
      subst hv6
      go_wp2
      go_end0
      refine ⟨rfl, _, C6, R6, v5hb, O6.os.trans (G5.os.trans OH.out.os), O6.tape.trans (G5.tape.trans OH.out.tape), O6.output.trans (G5.output.trans OH.out.output), ?_, fun k hk h1 h2 => ?_, fun q hq => ?_⟩
      · have h1 := G5.size; have h2 := O6.size; have h3 := OH.out.size; rw [World.size_alloc] at h1; omega
      · have h3 := OH.out.size
        exact (O6.block k (by have h1 := G5.size; rw [World.size_alloc] at h1; omega) h1).trans ((G5.block k (by rw [World.size_alloc]; omega) h2).trans (((alloc_b (v := (w.setCell ⟨hb, 0, none⟩ (.int .i64 (a + 1)))) (o := .cells #[.int .i64 x] 3)).block k (by omega)).trans (OH.out.block k hk h1)))
      · rcases A5 with h | h
        · rw [h] at hq; exact Or.inl hq
        · rw [h] at hq; injection hq with hq; exact Or.inr (by omega)
end Go.Proofs.Ytfhpjcojccfcoaa
