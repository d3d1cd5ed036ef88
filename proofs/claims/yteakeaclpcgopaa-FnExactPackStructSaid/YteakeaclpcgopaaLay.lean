/- Contracts of LayoutOf, the program's and the model's: both answer the spots, the size and the alignment that are told here without a program; conditions: names at most 2^20 long, the row in memory. -/
import Derived.Test.YteakeaclpcgopaaGood
import Derived.Test.YteakeaclpcgopaaSpt
import Derived.Test.YteakeaclpcgopaaClone
namespace Go.Proofs.Yteakeaclpcgopaa
open Go.ChangeShapes Go.WideShapes Go.ChangeAt Go.RowKit
set_option linter.unusedVariables false
/-- Alignment, stride and size of a field. -/
def fal (k : Nat) (a r : Int) : Int := if a = 0 then tal k r else many (tal k r) r
def fstr (k : Nat) (a r : Int) : Int := if a = 0 then tst k r else up (tsz k r) (many (tal k r) r)
def fsz (k : Nat) (a r : Int) : Int := if a = 0 then tsz k r else a * up (tsz k r) (many (tal k r) r)
theorem f_bounds (k : Nat) (a r : Int) (hk : k ≤ 8) (hr : 0 ≤ r ∧ r ≤ 2) (a0 : 0 ≤ a) (a1 : a ≤ 64) : 1 ≤ fal k a r ∧ fal k a r ≤ 32 ∧ 1 ≤ fsz k a r ∧ fsz k a r ≤ 8192 ∧ 0 ≤ fstr k a r ∧ fstr k a r ≤ 128 := by
  have tb := tal_bounds k r hk hr
  have mb := many_bounds (tal k r) r (by omega) (by omega)
  have ub := up_bounds (tsz k r) (many (tal k r) r) (by omega) (by omega) (by omega) (by omega)
  unfold fal fsz fstr
  by_cases h : a = 0
  · rw [if_pos h, if_pos h, if_pos h]; omega
  · rw [if_neg h, if_neg h, if_neg h]
    have u1 : up (tsz k r) (many (tal k r) r) ≤ 128 := by omega
    have p1 := Int.mul_le_mul a1 u1 (by omega) (by omega)
    have p2 := Int.mul_le_mul (show 1 ≤ a by omega) (show 1 ≤ up (tsz k r) (many (tal k r) r) by omega) (by omega) (by omega)
    omega
set_option maxRecDepth 100000 in
set_option maxHeartbeats 4000000 in
theorem field52 (nm t : ByteArray) (a r : Int) (w : World) (hk : kOf t ≤ 8) (hr : 0 ≤ r ∧ r ≤ 2) (a0 : 0 ≤ a) (a1 : a ≤ 64) : Calls Try.prog 52 #[.agg #[.string nm, .string t, .int .i64 a], .int .i64 r] w fun e w' => e = .returned (.agg #[.int .i64 (fsz (kOf t) a r), .int .i64 (fal (kOf t) a r), .int .i64 (fstr (kOf t) a r)]) ∧ Below w.heap.size w w' := by
  have tb := tal_bounds (kOf t) r hk hr
  have H5 : Hid (∀ w, Calls Try.prog 50 #[.string t, .int .i64 r] w fun e w' => e = .returned (.agg #[.int .i64 (tsz (kOf t) r), .int .i64 (tal (kOf t) r), .int .i64 (tst (kOf t) r)]) ∧ Below w.heap.size w w') := fun w => type50 t r w hk hr
  have H8 : Hid (∀ w, Calls Try.prog 81 #[.int .i64 a, .agg #[.int .i64 (tsz (kOf t) r), .int .i64 (tal (kOf t) r), .int .i64 (tst (kOf t) r)], .int .i64 r] w fun e w' => e = .returned (.agg #[.int .i64 (a * up (tsz (kOf t) r) (many (tal (kOf t) r) r)), .int .i64 (many (tal (kOf t) r) r), .int .i64 (up (tsz (kOf t) r) (many (tal (kOf t) r) r))]) ∧ Below w.heap.size w w') := fun w => array81 a (tsz (kOf t) r) (tal (kOf t) r) (tst (kOf t) r) r w a0 a1 (by omega) (by omega) (by omega) (by omega)
  unfold fsz fal fstr
  generalize kOf t = k at *
  generalize a * up (tsz k r) (many (tal k r) r) = AU at *
  generalize up (tsz k r) (many (tal k r) r) = UU at *
  generalize many (tal k r) r = MM at *
  generalize tsz k r = Z at *
  generalize tal k r = L at *
  generalize tst k r = S at *
  have X0 := C3.new (w.alloc (.cells #[.string nm, .string t, .int .i64 a] 61)) (.int .i64 0) (.int .i64 0) (.int .i64 0) 73
  have Y0 := (C3.new w (.string nm) (.string t) (.int .i64 a) 61).alloc (.cells #[.int .i64 0, .int .i64 0, .int .i64 0] 73)
  have HX : Hid (C3 ((w.alloc (.cells #[.string nm, .string t, .int .i64 a] 61)).alloc (.cells #[.int .i64 0, .int .i64 0, .int .i64 0] 73)) (w.heap.size + 1) (.int .i64 0) (.int .i64 0) (.int .i64 0)) := by rw [World.size_alloc] at X0; exact X0
  have HY : Hid (C3 ((w.alloc (.cells #[.string nm, .string t, .int .i64 a] 61)).alloc (.cells #[.int .i64 0, .int .i64 0, .int .i64 0] 73)) w.heap.size (.string nm) (.string t) (.int .i64 a)) := Y0
  have HB : Hid (Below w.heap.size w ((w.alloc (.cells #[.string nm, .string t, .int .i64 a] 61)).alloc (.cells #[.int .i64 0, .int .i64 0, .int .i64 0] 73))) := alloc_b.trans (alloc_b.mono (by simp))
  clear X0 Y0
  by_cases h0 : a = 0
  · rw [if_pos h0, if_pos h0, if_pos h0]
    subst h0
    go_enter Try.func52, Try.ntmps52
    go_wp2_with (go_at_call 50; refine ((Hid.out H5) _).mono ?_; rintro e w1 ⟨rfl, B1⟩; (have X1 := (HX.out.next B1).alloc (.cells #[.int .i64 Z, .int .i64 L, .int .i64 S] 73)); (obtain ⟨c0, c1, c2, f0, f1, f2, hi⟩ := X1); (obtain ⟨d0, d1, d2, _, _, _, _⟩ := (HY.out.next B1).alloc (.cells #[.int .i64 Z, .int .i64 L, .int .i64 S] 73)))
    obtain ⟨r0, r1, r2⟩ := put3 (.int .i64 Z) (.int .i64 L) (.int .i64 S) c0 c1 c2
    have z1 := B1.size
    exact bodyPost_ret (v := .agg #[.int .i64 Z, .int .i64 L, .int .i64 S]) (by simp [results, Try.results52, go_sem, r0, r1, r2]) rfl ⟨rfl, by
      refine Below.setCell (Below.setCell (Below.setCell ?_ (by simp) _) (by simp) _) (by simp) _
      exact (HB.out.trans (B1.mono (by simp; omega))).alloc (by simp at z1; omega) _⟩
  · rw [if_neg h0, if_neg h0, if_neg h0]
    have h0' : (a == 0) = false := by simpa using h0
    go_enter Try.func52, Try.ntmps52
    go_wp2_with (first | (go_at_call 50; refine ((Hid.out H5) _).mono ?_; rintro e w1 ⟨rfl, B1⟩; (have X1 := (HX.out.next B1).alloc (.cells #[.int .i64 Z, .int .i64 L, .int .i64 S] 73)); (obtain ⟨d0, d1, d2, _, _, _, _⟩ := (HY.out.next B1).alloc (.cells #[.int .i64 Z, .int .i64 L, .int .i64 S] 73))) | (go_at_call 81; refine ((Hid.out H8) _).mono ?_; rintro e w2 ⟨rfl, B2⟩; (obtain ⟨c0, c1, c2, f0, f1, f2, hi⟩ := X1.next B2)))
    obtain ⟨r0, r1, r2⟩ := put3 (.int .i64 AU) (.int .i64 MM) (.int .i64 UU) c0 c1 c2
    have z1 := B1.size
    exact bodyPost_ret (v := .agg #[.int .i64 AU, .int .i64 MM, .int .i64 UU]) (by simp [results, Try.results52, go_sem, r0, r1, r2]) rfl ⟨rfl, by
      refine Below.setCell (Below.setCell (Below.setCell ?_ (by simp) _) (by simp) _) (by simp) _
      exact ((HB.out.trans (B1.mono (by simp; omega))).alloc (by simp at z1; omega) _).trans (B2.mono (by simp at z1 ⊢; omega))⟩
/-- Where the first n fields end, where a field begins, the greatest alignment. -/
def endF (T : Nat → ByteArray) (J : Nat → Int) (r : Int) : Nat → Int
  | 0 => 0
  | n + 1 => up (endF T J r n) (fal (kOf (T n)) (J n) r) + fsz (kOf (T n)) (J n) r
def offF (T : Nat → ByteArray) (J : Nat → Int) (r : Int) (n : Nat) : Int := up (endF T J r n) (fal (kOf (T n)) (J n) r)
def alF (T : Nat → ByteArray) (J : Nat → Int) (r : Int) : Nat → Int
  | 0 => 0
  | n + 1 => max (alF T J r n) (fal (kOf (T n)) (J n) r)
def spotAt (K T : Nat → ByteArray) (J : Nat → Int) (r : Int) (i : Nat) : TupS := (K i, offF T J r i, fsz (kOf (T i)) (J i) r, fstr (kOf (T i)) (J i) r)
def spotsL (K T : Nat → ByteArray) (J : Nat → Int) (r : Int) (n : Nat) : List TupS := (List.range n).map (spotAt K T J r)
theorem spotsL_len (K T : Nat → ByteArray) (J : Nat → Int) (r : Int) (n : Nat) : (spotsL K T J r n).length = n := by simp [spotsL]
theorem spotsL_succ (K T : Nat → ByteArray) (J : Nat → Int) (r : Int) (n : Nat) : cellsS (spotsL K T J r (n + 1)) = cellsS (spotsL K T J r n) ++ [.string (K n), .int .i64 (offF T J r n), .int .i64 (fsz (kOf (T n)) (J n) r), .int .i64 (fstr (kOf (T n)) (J n) r)] := by
  unfold spotsL
  rw [List.range_succ, List.map_append, cellsS_app]
  rfl
theorem allG_at (K T : Nat → ByteArray) (J : Nat → Int) : ∀ n, allG K T J n = true → ∀ i, i < n → Tk.goodB (K i) = true ∧ kOf (T i) ≤ 8 ∧ 0 ≤ J i ∧ J i ≤ 64 ∧ Tk.isIn K (K i) i = false
  | 0, _, i, hi => by omega
  | n + 1, h, i, hi => by
    rw [allG] at h
    simp only [Bool.and_eq_true] at h
    by_cases e : i = n
    · subst e
      have h1 := h.2.1
      unfold okF at h1
      simp only [Bool.and_eq_true, decide_eq_true_eq] at h1
      exact ⟨h1.1.1, h1.1.2, h1.2.1, h1.2.2, by simpa using h.2.2⟩
    · exact allG_at K T J n h.1 i (by omega)
theorem end_bounds (K T : Nat → ByteArray) (J : Nat → Int) (r : Int) (hr : 0 ≤ r ∧ r ≤ 2) (n : Nat) (h : allG K T J n = true) : ∀ i, i ≤ n → i ≤ 12 → 0 ≤ endF T J r i ∧ endF T J r i ≤ 8224 * (i : Int) ∧ (0 < i → 1 ≤ alF T J r i) ∧ 0 ≤ alF T J r i ∧ alF T J r i ≤ 32
  | 0, _, _ => ⟨by simp [endF], by simp [endF], fun h => by omega, by simp [alF], by simp [alF]⟩
  | i + 1, hi, h12 => by
    have q := end_bounds K T J r hr n h i (by omega) (by omega)
    have g := allG_at K T J n h i (by omega)
    have f := f_bounds (kOf (T i)) (J i) r g.2.1 hr g.2.2.1 g.2.2.2.1
    have u := up_bounds (endF T J r i) (fal (kOf (T i)) (J i) r) (by omega) (by omega) (by omega) (by omega)
    rw [endF, alF]
    refine ⟨by omega, by push_cast; omega, fun _ => by omega, by omega, by omega⟩
/-- Size and alignment of the struct. -/
def layAl (T : Nat → ByteArray) (J : Nat → Int) (r : Int) (n : Nat) : Int := many (alF T J r n) r
def laySz (T : Nat → ByteArray) (J : Nat → Int) (r : Int) (n : Nat) : Int := up (endF T J r n) (layAl T J r n)
/-- What a call of either side answers: the spots, size and alignment, and whether there is one. -/
def SaysL (w : World) (l : List TupS) (sz al : Int) (ok : Bool) (e : Ending) (w' : World) : Prop :=
  ∃ v, e = .returned (.tuple #[.agg #[v, .int .i64 sz, .int .i64 al], .bool ok]) ∧ RowSV w' v l.length (atS0 l) (atS1 l) (atS2 l) (atS3 l) ∧ (∀ g, v.ownBlock = some g → w.heap.size ≤ g) ∧ Below w.heap.size w w'
def okL (K T : Nat → ByteArray) (J : Nat → Int) (r : Int) (n : Nat) : Bool := goodFs K T J n && decide (0 ≤ r ∧ r ≤ 2)
theorem info76 : (Try.prog.info? 76).map (fun i => (i.zero, i.size, i.bytes)) = some (some (.agg #[.string ⟨#[]⟩, .int .i64 0, .int .i64 0, .int .i64 0]), 4, 40) := by kernel_rfl
theorem C3.set0 {w : World} {o : Nat} {a b c : Value} (h : C3 w o a b c) (x : Value) : C3 (w.setCell ⟨o, 0, none⟩ x) o x b c := ⟨cell_put _ _ _ _ _ _ h.c0, cell_put _ _ _ _ _ _ h.c1, cell_put _ _ _ _ _ _ h.c2, by simp [h.f0], by simp [h.f1], by simp [h.f2], by simpa using h.hi⟩
theorem C3.set1 {w : World} {o : Nat} {a b c : Value} (h : C3 w o a b c) (x : Value) : C3 (w.setCell ⟨o, 1, none⟩ x) o a x c := ⟨cell_put _ _ _ _ _ _ h.c0, cell_put _ _ _ _ _ _ h.c1, cell_put _ _ _ _ _ _ h.c2, by simp [h.f0], by simp [h.f1], by simp [h.f2], by simpa using h.hi⟩
theorem C3.set2 {w : World} {o : Nat} {a b c : Value} (h : C3 w o a b c) (x : Value) : C3 (w.setCell ⟨o, 2, none⟩ x) o a b x := ⟨cell_put _ _ _ _ _ _ h.c0, cell_put _ _ _ _ _ _ h.c1, cell_put _ _ _ _ _ _ h.c2, by simp [h.f0], by simp [h.f1], by simp [h.f2], by simpa using h.hi⟩
theorem C3.but {w : World} {o p : Nat} {a b c : Value} (h : C3 w o a b c) (j : Nat) (x : Value) (hne : o ≠ p) : C3 (w.setCell ⟨p, j, none⟩ x) o a b c := by
  have ne : ∀ i : Nat, (⟨p, j, none⟩ : Addr) ≠ ⟨o, i, none⟩ := fun i e => by injection e with e1 _; exact hne e1.symm
  exact ⟨by rw [World.cell?_setCell_other (h := ne 0)]; exact h.c0, by rw [World.cell?_setCell_other (h := ne 1)]; exact h.c1, by rw [World.cell?_setCell_other (h := ne 2)]; exact h.c2, by simp [h.f0], by simp [h.f1], by simp [h.f2], by simpa using h.hi⟩
theorem C3.grown {w w' : World} {o : Nat} {a b c : Value} {row : Option Nat} (h : C3 w o a b c) (hb : w.grownBy w' row) (hne : some o ≠ row) : C3 w' o a b c := by
  have z := hb.size
  have b := hb.block o h.hi hne
  exact ⟨(World.cell?_of_block (w := w) (a := ⟨o, 0, none⟩) b).trans h.c0, (World.cell?_of_block (w := w) (a := ⟨o, 1, none⟩) b).trans h.c1, (World.cell?_of_block (w := w) (a := ⟨o, 2, none⟩) b).trans h.c2, (World.frozen?_of_block (w := w) (a := ⟨o, 0, none⟩) b).trans h.f0, (World.frozen?_of_block (w := w) (a := ⟨o, 1, none⟩) b).trans h.f1, (World.frozen?_of_block (w := w) (a := ⟨o, 2, none⟩) b).trans h.f2, by have := h.hi; omega⟩
/-- Four cells from the head of block o on, which may be written. -/
structure C4 (w : World) (o : Nat) (a b c d : Value) : Prop where
  c0 : w.cell? ⟨o, 0, none⟩ = some a
  c1 : w.cell? ⟨o, 1, none⟩ = some b
  c2 : w.cell? ⟨o, 2, none⟩ = some c
  c3 : w.cell? ⟨o, 3, none⟩ = some d
  f0 : w.frozen? ⟨o, 0, none⟩ = false
  f1 : w.frozen? ⟨o, 1, none⟩ = false
  f2 : w.frozen? ⟨o, 2, none⟩ = false
  f3 : w.frozen? ⟨o, 3, none⟩ = false
  hi : o < w.heap.size
theorem C4.next {w w' : World} {o : Nat} {a b c d : Value} (h : C4 w o a b c d) (B : Below w.heap.size w w') : C4 w' o a b c d :=
  ⟨(B.cell (p := ⟨o, 0, none⟩) h.hi).trans h.c0, (B.cell (p := ⟨o, 1, none⟩) h.hi).trans h.c1, (B.cell (p := ⟨o, 2, none⟩) h.hi).trans h.c2, (B.cell (p := ⟨o, 3, none⟩) h.hi).trans h.c3, (B.frozen (p := ⟨o, 0, none⟩) h.hi).trans h.f0, (B.frozen (p := ⟨o, 1, none⟩) h.hi).trans h.f1, (B.frozen (p := ⟨o, 2, none⟩) h.hi).trans h.f2, (B.frozen (p := ⟨o, 3, none⟩) h.hi).trans h.f3, by have := B.size; have := h.hi; omega⟩
theorem C4.new (w : World) (a b c d : Value) (t : TypeId) : C4 (w.alloc (.cells #[a, b, c, d] t)) w.heap.size a b c d :=
  ⟨by simp [go_sem], by simp [go_sem], by simp [go_sem], by simp [go_sem], by simp [go_sem], by simp [go_sem], by simp [go_sem], by simp [go_sem], by simp⟩
theorem set4 {w : World} {o p i : Nat} {x0 x1 x2 x3 u : Value} (hne : p ≠ o) (h : w.cell? ⟨p, i, none⟩ = some u) : ((((w.setCell ⟨o, 0, none⟩ x0).setCell ⟨o, 1, none⟩ x1).setCell ⟨o, 2, none⟩ x2).setCell ⟨o, 3, none⟩ x3).cell? ⟨p, i, none⟩ = some u := by
  have ne : ∀ j : Nat, (⟨o, j, none⟩ : Addr) ≠ ⟨p, i, none⟩ := fun j e => by injection e with e1 _; exact hne e1.symm
  rw [World.cell?_setCell_other (h := ne 3), World.cell?_setCell_other (h := ne 2), World.cell?_setCell_other (h := ne 1), World.cell?_setCell_other (h := ne 0)]
  exact h
theorem cell_al {w : World} {p : Addr} {u : Value} {x : Obj} (h : w.cell? p = some u) : (w.alloc x).cell? p = some u := by
  rw [(alloc_b (w := w) (o := x)).cell (p := p) (World.block_lt_of_cell? w p h)]
  exact h
theorem C4.put {w : World} {o : Nat} {a0 a1 a2 a3 : Value} (h : C4 w o a0 a1 a2 a3) (b0 b1 b2 b3 : Value) : C4 ((((w.setCell ⟨o, 0, none⟩ b0).setCell ⟨o, 1, none⟩ b1).setCell ⟨o, 2, none⟩ b2).setCell ⟨o, 3, none⟩ b3) o b0 b1 b2 b3 :=
  ⟨cell_put _ _ _ _ _ _ (cell_put _ _ _ _ _ _ (cell_put _ _ _ _ _ _ (cell_put _ _ _ _ _ _ h.c0))), cell_put _ _ _ _ _ _ (cell_put _ _ _ _ _ _ (cell_put _ _ _ _ _ _ (cell_put _ _ _ _ _ _ h.c1))), cell_put _ _ _ _ _ _ (cell_put _ _ _ _ _ _ (cell_put _ _ _ _ _ _ (cell_put _ _ _ _ _ _ h.c2))), cell_put _ _ _ _ _ _ (cell_put _ _ _ _ _ _ (cell_put _ _ _ _ _ _ (cell_put _ _ _ _ _ _ h.c3))), by simp [h.f0], by simp [h.f1], by simp [h.f2], by simp [h.f3], by simpa using h.hi⟩
theorem owns_but {w : World} {base : Nat} {e : TypeId} {size : Nat} {v : Value} {n : Nat} {xs : List Value} (h : w.ownsRow base e size v n xs) (p j : Nat) (x : Value) (hp : p < base) : (w.setCell ⟨p, j, none⟩ x).ownsRow base e size v n xs := by
  refine h.kept (row := some p) ?_ ?_
  · exact ⟨rfl, rfl, rfl, by simp, fun k hk hne => by
      have := Tk.Only.setCell (Tk.Only.refl p w) j x
      exact this.block k hk (fun e => hne (by rw [e]))⟩
  · cases hv : v.ownBlock with
    | none => exact Or.inl rfl
    | some g => exact Or.inr (fun e => by have := (h.lt g hv).1; injection e with e; omega)
end Go.Proofs.Yteakeaclpcgopaa
