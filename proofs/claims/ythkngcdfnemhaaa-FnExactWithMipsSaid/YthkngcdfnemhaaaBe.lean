/- The program's WithMips. -/
import Derived.Test.YthkngcdfnemhaaaBd
import Derived.Test.YthkngcdfnemhaaaBf
namespace Go.Proofs.Ythkngcdfnemhaaa
open Go.ChangeShapes Go.WideShapes Go.ChangeAt Go.RowKit
set_option linter.unusedVariables false
theorem T8.one (w : World) (u : Value) : T8 w.heap.size (w.alloc (.cells #[u] 28)) (.slice (some ⟨w.heap.size, 0, none⟩) 1 1) [u] := by
  refine ⟨⟨rfl, Or.inr ⟨w.heap.size, 1, #[u], rfl, Nat.le_refl _, heap_alloc_new w _, Nat.le_refl _, by decide, rfl, rfl⟩⟩, ?_⟩
  rw [World.size_alloc]; omega
theorem T8.low {B C : Nat} {w : World} {v : Value} {L : List Value} (h : T8 C w v L) (hB : B ≤ C) : T8 B w v L := by
  refine ⟨⟨h.1.1, ?_⟩, Nat.le_trans hB h.2⟩
  rcases h.1.2 with h1 | ⟨g, cap, cur, h1, h2, h3⟩
  · exact Or.inl h1
  · exact Or.inr ⟨g, cap, cur, h1, Nat.le_trans hB h2, h3⟩
theorem wpList_append_t8 {ops : Array Oper} {rest : List Oper} {o : Oper} {a : Act} {w : World} {Q : Exit → Act → World → Prop} (s x : Operand) (hgd : o.guard = Option.none) (ho : o.op = .call { callee := .builtin .append, args := #[s, x], argTypes := #[38, 38] }) {B p c : Nat} {v u : Value} {L : List Value} (hs : a.eval s = v) (hx : a.eval x = .slice (some ⟨p, 0, Option.none⟩) 1 c) (R : T8 B w v L) (hu : w.cell? ⟨p, 0, Option.none⟩ = some u) (h1 : u.oneCell' = true) (hl : L.length < 1000)
    (h : ∀ g cap w', T8 B w' (.slice (some ⟨g, 0, Option.none⟩) (L.length + 1) cap) (L ++ [u]) → w.grownBy w' v.ownBlock → (v.ownBlock = some g ∨ g = w.heap.size) → wpList Try.prog ops Q rest (a.put o.dst (.slice (some ⟨g, 0, Option.none⟩) (L.length + 1) cap)) w') : wpList Try.prog ops Q (o :: rest) a w := by
  obtain ⟨g, cap, w', e1, e2, e3, e4⟩ := run_append_t8 (ty := o.type) (c := c) R hu h1 hl
  exact Lib.wpList_append_run w hgd s x 38 38 ho v _ hs hx _ w' e1 (h g cap w' e2 e3 e4)
/-- What WithMips takes. -/
def wmB (s y l : Int) (Cs : List Col) : Bool := fmB l && ((gsB s && gsB y) && (decide ((Cs.length : Int) = s * y) && Cs.all kgB))
def lv0 (l : Int) (Cs : List Col) : List Int := catB (fun i => pkK l (Cs.getD i dC)) Cs.length
/-- What WithMips makes: a texture whose rows are its own, from block B on. -/
def MpA (B : Nat) (w : World) (a : Value) (s y l : Int) (Cs : List Col) (us : List Value) : Prop := ∃ lv, a = .agg #[.int .i64 (if wmB s y l Cs then s else 0), .int .i64 (if wmB s y l Cs then y else 0), .int .i64 (if wmB s y l Cs then l else 0), lv] ∧ T8 B w lv us ∧ us.length = (if wmB s y l Cs then lcN s y else 0) ∧ Lv B w us (mpF l s y (lv0 l Cs))
theorem MpA.none {B : Nat} {s y l : Int} {Cs : List Col} (w : World) (h : wmB s y l Cs = false) (hw : B ≤ w.heap.size) : MpA B w (.agg #[.int .i64 0, .int .i64 0, .int .i64 0, .slice none 0 0]) s y l Cs [] := ⟨_, by rw [h]; rfl, T8.nil _ _ hw, by rw [h]; rfl, Lv.nil _ _ _⟩
/-- How many levels there are. -/
def lvn (tb : Nat) (w : World) : Nat := match w.cell? ⟨tb, 3, none⟩ with | some (.slice _ m _) => m | _ => 0
structure Mq (pb tb B0 : Nat) (s y l : Int) (fv : Value) (SS SY : Nat → Int) (MF : Nat → List Int) (V : World) (j : Nat) (us : List Value) (lv : Value) (w : World) : Prop where
  p : C4 w pb (.int .i64 (SS j)) (.int .i64 (SY j)) fv (us.getD j (.slice none 0 0))
  t : C4 w tb (.int .i64 s) (.int .i64 y) (.int .i64 l) lv
  o : T8 (pb + 1) w lv us
  r : Lv (pb + 1) w us MF
  n1 : lv.ownBlock ≠ some tb
  n2 : ∀ i, i < us.length → (us.getD i (.slice none 0 0)).ownBlock ≠ some tb
  b : Below B0 V w
  h : us.length = j + 1
theorem Mq.next {pb tb B0 : Nat} {s y l : Int} {fv : Value} {SS SY : Nat → Int} {MF : Nat → List Int} {V : World} {j : Nat} {us : List Value} {lv : Value} {w w' : World} (h : Mq pb tb B0 s y l fv SS SY MF V j us lv w) (b : Below w.heap.size w w') (hB : B0 ≤ w.heap.size) : Mq pb tb B0 s y l fv SS SY MF V j us lv w' := ⟨h.p.next b, h.t.next b, h.o.next b, h.r.next b, h.n1, h.n2, h.b.trans (b.mono hB), h.h⟩
theorem Mq.mid {pb tb : Nat} {s y l : Int} {fv v : Value} {SS SY : Nat → Int} {MF : Nat → List Int} {V : World} {j : Nat} {us : List Value} {lv : Value} {w w6 : World} (h : Mq pb tb pb s y l fv SS SY MF V j us lv w) (hpt : pb < tb) (B6 : Below w.heap.size w w6) (a b : Value) : C4 (set4 w6 pb a b fv v) tb (.int .i64 s) (.int .i64 y) (.int .i64 l) lv ∧ T8 (pb + 1) (set4 w6 pb a b fv v) lv us ∧ C4 (set4 w6 pb a b fv v) pb a b fv v := by
  have O7 := only_set4 w6 pb a b fv v
  have t6 := h.t.next B6
  refine ⟨t6.block (O7.block tb t6.hi (by omega)) O7.size, (h.o.next B6).grown (only_grown O7) ?_, (h.p.next B6).put a b fv v⟩
  cases e : lv.ownBlock with
  | none => exact Or.inl rfl
  | some q => exact Or.inr (by have := (h.o.lt q e).1; simp; omega)
theorem Mq.step {pb tb : Nat} {s y l : Int} {fv v : Value} {SS SY : Nat → Int} {MF : Nat → List Int} {V : World} {j : Nat} {us : List Value} {lv : Value} {w w6 w8 : World} {o : Obj} {g cap : Nat} (h : Mq pb tb pb s y l fv SS SY MF V j us lv w) (hpt : pb < tb) (B6 : Below w.heap.size w w6) (Y6 : Y8 w.heap.size w6 v (MF (j + 1)))
    (hgr : ((set4 w6 pb (.int .i64 (SS (j + 1))) (.int .i64 (SY (j + 1))) fv v).alloc o).grownBy w8 lv.ownBlock) (HT : T8 (pb + 1) w8 (.slice (some ⟨g, 0, none⟩) (us.length + 1) cap) (us ++ [v])) (hgo : lv.ownBlock = some g ∨ g = ((set4 w6 pb (.int .i64 (SS (j + 1))) (.int .i64 (SY (j + 1))) fv v).alloc o).heap.size) :
    Mq pb tb pb s y l fv SS SY MF V (j + 1) (us ++ [v]) (.slice (some ⟨g, 0, none⟩) (us.length + 1) cap) (w8.setCell ⟨tb, 3, none⟩ (.slice (some ⟨g, 0, none⟩) (us.length + 1) cap)) := by
  have O7 := only_set4 w6 pb (.int .i64 (SS (j + 1))) (.int .i64 (SY (j + 1))) fv v
  have p6 := h.p.next B6
  have t6 := h.t.next B6
  have tb6 : tb < w.heap.size := h.t.hi
  have w66 : w.heap.size ≤ w6.heap.size := B6.size
  have P7 := p6.put (.int .i64 (SS (j + 1))) (.int .i64 (SY (j + 1))) fv v
  have T7 := t6.block (O7.block tb t6.hi (by omega)) O7.size
  have R7 := (h.r.next B6).grown (only_grown O7) (fun i hi => by
    cases e : (us.getD i (.slice none 0 0)).ownBlock with
    | none => exact Or.inl rfl
    | some q => exact Or.inr (by have := (h.r.lt i q hi e).1; simp; omega))
  have Y7 := Y6.grown (only_grown O7) (by
    cases e : v.ownBlock with
    | none => exact Or.inl rfl
    | some q => exact Or.inr (by have := (Y6.lt q e).1; simp; omega))
  have W7 : w6.heap.size ≤ (set4 w6 pb (.int .i64 (SS (j + 1))) (.int .i64 (SY (j + 1))) fv v).heap.size := O7.size
  have b7 : Below pb V (set4 w6 pb (.int .i64 (SS (j + 1))) (.int .i64 (SY (j + 1))) fv v) := (h.b.trans (B6.mono (by omega))).trans (O7.below (Nat.le_refl _) (by omega))
  have O7m := (h.o.next B6).grown (only_grown O7) (by
    cases e : lv.ownBlock with
    | none => exact Or.inl rfl
    | some q => exact Or.inr (by have := (h.o.lt q e).1; simp; omega))
  generalize set4 w6 pb (.int .i64 (SS (j + 1))) (.int .i64 (SY (j + 1))) fv v = w7 at *
  have lvpb : ∀ q, lv.ownBlock = some q → pb + 1 ≤ q := fun q hq => (h.o.lt q hq).1
  have P8 : C4 w8 pb (.int .i64 (SS (j + 1))) (.int .i64 (SY (j + 1))) fv v := (P7.next (alloc_b (o := o))).block (hgr.block pb (P7.next (alloc_b (o := o))).hi (fun e => by have := lvpb pb e.symm; omega)) hgr.size
  have T8n : C4 w8 tb (.int .i64 s) (.int .i64 y) (.int .i64 l) lv := (T7.next (alloc_b (o := o))).block (hgr.block tb (T7.next (alloc_b (o := o))).hi (fun e => h.n1 e.symm)) hgr.size
  have R8 := (R7.next (alloc_b (o := o))).grown hgr (fun i hi => by
    cases e : (us.getD i (.slice none 0 0)).ownBlock with
    | none => exact Or.inl rfl
    | some q => exact Or.inr (fun e2 => kne (h.r.r i hi).1 h.o.1 (by decide) q e e2.symm))
  have Y8n := (Y7.next (alloc_b (o := o))).grown hgr (by
    cases e : v.ownBlock with
    | none => exact Or.inl rfl
    | some q => exact Or.inr (fun e2 => kne Y7.1 O7m.1 (by decide) q e e2.symm))
  have sA : w7.heap.size ≤ (w7.alloc o).heap.size := alloc_b.size
  have b8 : Below pb V w8 := (b7.trans (alloc_b.mono (by omega))).trans (below_grown (Below.refl _ _) (by omega) hgr (fun q hq => by have := lvpb q hq; omega))
  have gtb : g ≠ tb := by
    rcases hgo with e | e
    · intro e2; rw [e2] at e; exact h.n1 e
    · omega
  have O9 := (Only.refl tb w8).setCell 3 (.slice (some ⟨g, 0, none⟩) (us.length + 1) cap)
  have L9 := R8.grown (only_grown O9) (fun i hi => Or.inr (h.n2 i hi))
  have Y9 := Y8n.grown (only_grown O9) (by
    cases e : v.ownBlock with
    | none => exact Or.inl rfl
    | some q => exact Or.inr (by have := (Y8n.lt q e).1; simp; omega))
  have hlen : (us ++ [v]).length = us.length + 1 := by simp
  have e1 : (us ++ [v]).getD (j + 1) (.slice none 0 0) = v := by rw [← h.h]; simp [List.getD]
  refine ⟨by rw [e1]; exact P8.far tb 3 _ (by omega), T8n.s3 _, HT.grown (only_grown O9) (Or.inr (by simp [Value.ownBlock]; exact gtb)), L9.snoc (C := w.heap.size) (by rw [show MF us.length = MF (j + 1) by rw [h.h]]; exact Y9) (fun i q hi hq => (h.r.lt i q hi hq).2) (by have := h.p.hi; omega), by simp [Value.ownBlock]; exact gtb, fun i hi => ?_, b8.trans (O9.below (by omega) (by have := hgr.size; omega)), by rw [hlen, h.h]⟩
  by_cases e : i = us.length
  · subst e
    have e2 : (us ++ [v]).getD us.length (.slice none 0 0) = v := by simp [List.getD]
    rw [e2]
    intro e3
    have := (Y6.lt tb e3).1
    omega
  · have hi2 : i < us.length := by rw [hlen] at hi; omega
    have e2 : (us ++ [v]).getD i (.slice none 0 0) = us.getD i (.slice none 0 0) := by simp [List.getD, List.getElem?_append_left hi2]
    rw [e2]
    exact h.n2 i hi2
theorem wm_area {s y : Int} (hs : gS s) (hy : gS y) : 1 ≤ s * y ∧ s * y ≤ 256 := by
  obtain ⟨a0, a1⟩ := gS_bnd hs
  obtain ⟨b0, b1⟩ := gS_bnd hy
  have h1 : 1 * 1 ≤ s * y := Int.mul_le_mul a0 b0 (by decide) (by omega)
  have h2 : s * y ≤ 16 * 16 := Int.mul_le_mul a1 b1 (by omega) (by decide)
  omega
theorem lv0_ok {l : Int} (hf : l = 1 ∨ l = 2 ∨ l = 3) {Cs : List Col} (h : Cs.all kgB = true) : (lv0 l Cs).length = Cs.length * szF l ∧ ∀ x, x ∈ lv0 l Cs → 0 ≤ x ∧ x ≤ 255 := by
  refine ⟨cat_len _ (fun i _ => pk_len hf _), cat_mem _ (fun i hi => pk_byte hf ?_)⟩
  rw [List.all_eq_true] at h
  have := h (Cs.getD i dC) (by simp [List.getD, hi])
  exact gdC_iff.1 this
set_option maxRecDepth 100000 in
set_option maxHeartbeats 8000000 in
theorem pmips (s y l : Int) (x : Value) (Cs : List Col) (w : World) (X : KRow w x Cs) (hn : Cs.length ≤ 1048576) : Calls Try.prog 31 #[.int .i64 s, .int .i64 y, .int .i64 l, x] w fun e w' => ∃ a us, e = .returned (.tuple #[a, .bool (wmB s y l Cs)]) ∧ MpA w.heap.size w' a s y l Cs us ∧ Below w.heap.size w w' := by
  have HFO : Hid (∀ w, Calls Try.prog 43 #[.int .i64 l] w fun e w' => e = .returned (.tuple #[fmV l, .bool (fmB l)]) ∧ w' = w) := fun w => fmt43 l w
  have HGS : Hid (∀ w, Calls Try.prog 51 #[.int .i64 s, .int .i64 y] w fun e w' => e = .returned (.bool (gsB s && gsB y)) ∧ w' = w) := fun w => sides51 s y w
  have HCF : Hid (∀ w', Below w.heap.size w w' → Calls Try.prog 56 #[x] w' fun e w'' => e = .returned (.bool (Cs.all kgB)) ∧ Below w'.heap.size w' w'') := fun w' b => pgcs Cs x w' (X.next b) hn
  have HXX : Hid (∀ w', Below w.heap.size w w' → KRow w' x Cs) := fun w' b => X.next b
  obtain ⟨xa, xc, rfl, -⟩ := X
  have D0 := C4.new w 43 (.int .i64 0) (.int .i64 0) (.int .i64 0) (.slice none 0 0)
  have BX0 : Below w.heap.size w (w.alloc (.cells #[.int .i64 0, .int .i64 0, .int .i64 0, .slice none 0 0] 43)) := alloc_b
  obtain ⟨V0, hV0⟩ : ∃ z, w.alloc (.cells #[.int .i64 0, .int .i64 0, .int .i64 0, .slice none 0 0] 43) = z := ⟨_, rfl⟩
  have HV0 := Hid.mk hV0
  rw [hV0] at D0 BX0
  clear hV0
  have x0 := D0.c0
  have x1 := D0.c1
  have x2 := D0.c2
  have x3 := D0.c3
  have xf := D0.f
  cases h1 : fmB l
  · have hB : wmB s y l Cs = false := by unfold wmB; rw [h1]; rfl
    rw [hB]
    rw [h1] at HFO
    go_enter Try.func31, Try.ntmps31
    go_upto_region 1 with fail
    rw [HV0.out]
    clear HV0
    go_wp2_with (go_at_call 43; refine (HFO.out _).mono ?_; rintro e9 w9 ⟨rfl, hw⟩; subst w9)
    clear x0 x1 x2 x3 xf
    have D6 := D0.put (.int .i64 0) (.int .i64 0) (.int .i64 0) (.slice none 0 0)
    have B06 : Below w.heap.size w (set4 V0 w.heap.size (.int .i64 0) (.int .i64 0) (.int .i64 0) (.slice none 0 0)) := BX0.trans ((only_set4 V0 w.heap.size (.int .i64 0) (.int .i64 0) (.int .i64 0) (.slice none 0 0)).below (Nat.le_refl _) BX0.size)
    unfold set4 at D6 B06
    have r0 := D6.c0
    have r1 := D6.c1
    have r2 := D6.c2
    have r3 := D6.c3
    exact bodyPost_ret (v := .tuple #[.agg #[.int .i64 0, .int .i64 0, .int .i64 0, .slice none 0 0], .bool false]) (by simp [results, Try.results31, go_sem, r0, r1, r2, r3]) rfl ⟨_, [], rfl, MpA.none _ hB (by have := B06.size; omega), B06⟩
  rw [h1] at HFO
  cases h2 : (gsB s && gsB y)
  · have hB : wmB s y l Cs = false := by unfold wmB; rw [h1, h2]; rfl
    rw [hB]
    rw [h2] at HGS
    go_enter Try.func31, Try.ntmps31
    go_upto_region 1 with fail
    rw [HV0.out]
    clear HV0
    go_wp2_with (first | (go_at_call 43; refine (HFO.out _).mono ?_; rintro e9 w9 ⟨rfl, hw⟩; subst w9) | (go_at_call 51; refine (HGS.out _).mono ?_; rintro e9 w9 ⟨rfl, hw⟩; subst w9))
    clear x0 x1 x2 x3 xf
    have D6 := D0.put (.int .i64 0) (.int .i64 0) (.int .i64 0) (.slice none 0 0)
    have B06 : Below w.heap.size w (set4 V0 w.heap.size (.int .i64 0) (.int .i64 0) (.int .i64 0) (.slice none 0 0)) := BX0.trans ((only_set4 V0 w.heap.size (.int .i64 0) (.int .i64 0) (.int .i64 0) (.slice none 0 0)).below (Nat.le_refl _) BX0.size)
    unfold set4 at D6 B06
    have r0 := D6.c0
    have r1 := D6.c1
    have r2 := D6.c2
    have r3 := D6.c3
    exact bodyPost_ret (v := .tuple #[.agg #[.int .i64 0, .int .i64 0, .int .i64 0, .slice none 0 0], .bool false]) (by simp [results, Try.results31, go_sem, r0, r1, r2, r3]) rfl ⟨_, [], rfl, MpA.none _ hB (by have := B06.size; omega), B06⟩
  rw [h2] at HGS
  have h22 := h2
  simp only [Bool.and_eq_true, gsB_iff] at h22
  obtain ⟨hs, hy⟩ := h22
  obtain ⟨p0, p1⟩ := wm_area hs hy
  obtain ⟨P, hP⟩ : ∃ z, s * y = z := ⟨_, rfl⟩
  rw [hP] at p0 p1
  have hPw : IntKind.i64.wrap P = P := (IntKind.wrap_i64 _).trans (by omega)
  by_cases h3 : (Cs.length : Int) = P
  case neg =>
    have hB : wmB s y l Cs = false := by unfold wmB; rw [h1, h2, hP, decide_eq_false h3]; rfl
    rw [hB]
    generalize Cs.length = n at *
    have c2 : ((n : Int) == P) = false := by simp; exact h3
    have c3 : ((n : Int) != P) = true := by simp; exact h3
    go_enter Try.func31, Try.ntmps31
    go_upto_region 1 with fail
    rw [HV0.out]
    clear HV0
    go_wp2_with (first | (go_at_call 43; refine (HFO.out _).mono ?_; rintro e9 w9 ⟨rfl, hw⟩; subst w9) | (go_at_call 51; refine (HGS.out _).mono ?_; rintro e9 w9 ⟨rfl, hw⟩; subst w9))
    clear x0 x1 x2 x3 xf
    have D6 := D0.put (.int .i64 0) (.int .i64 0) (.int .i64 0) (.slice none 0 0)
    have B06 : Below w.heap.size w (set4 V0 w.heap.size (.int .i64 0) (.int .i64 0) (.int .i64 0) (.slice none 0 0)) := BX0.trans ((only_set4 V0 w.heap.size (.int .i64 0) (.int .i64 0) (.int .i64 0) (.slice none 0 0)).below (Nat.le_refl _) BX0.size)
    unfold set4 at D6 B06
    have r0 := D6.c0
    have r1 := D6.c1
    have r2 := D6.c2
    have r3 := D6.c3
    exact bodyPost_ret (v := .tuple #[.agg #[.int .i64 0, .int .i64 0, .int .i64 0, .slice none 0 0], .bool false]) (by simp [results, Try.results31, go_sem, r0, r1, r2, r3]) rfl ⟨_, [], rfl, MpA.none _ hB (by have := B06.size; omega), B06⟩
  have c2 : ((Cs.length : Int) == P) = true := by simp; exact h3
  have c3 : ((Cs.length : Int) != P) = false := by simp; exact h3
  cases h4 : Cs.all kgB
  · have hB : wmB s y l Cs = false := by unfold wmB; rw [h1, h2, h4]; simp
    rw [hB]
    rw [h4] at HCF
    have HP3 := Hid.mk h3
    generalize Cs.length = n at *
    clear h3
    go_enter Try.func31, Try.ntmps31
    go_upto_region 1 with fail
    rw [HV0.out]
    clear HV0
    go_wp2_with (first | (go_at_call 43; refine (HFO.out _).mono ?_; rintro e9 w9 ⟨rfl, hw⟩; subst w9) | (go_at_call 51; refine (HGS.out _).mono ?_; rintro e9 w9 ⟨rfl, hw⟩; subst w9) | (go_at_call 56; refine (HCF.out _ BX0).mono ?_; rintro e9 w2 ⟨rfl, B2⟩; (have D2 := D0.next B2); (have BX2 := BX0.trans (B2.mono BX0.size)); (have x0 := D2.c0); (have x1 := D2.c1); (have x2 := D2.c2); (have x3 := D2.c3); (have xf := D2.f); (have xf := D2.f)))
    clear x0 x1 x2 x3 xf
    have D6 := D2.put (.int .i64 0) (.int .i64 0) (.int .i64 0) (.slice none 0 0)
    have B06 : Below w.heap.size w (set4 w2 w.heap.size (.int .i64 0) (.int .i64 0) (.int .i64 0) (.slice none 0 0)) := BX2.trans ((only_set4 w2 w.heap.size (.int .i64 0) (.int .i64 0) (.int .i64 0) (.slice none 0 0)).below (Nat.le_refl _) BX2.size)
    unfold set4 at D6 B06
    have r0 := D6.c0
    have r1 := D6.c1
    have r2 := D6.c2
    have r3 := D6.c3
    exact bodyPost_ret (v := .tuple #[.agg #[.int .i64 0, .int .i64 0, .int .i64 0, .slice none 0 0], .bool false]) (by simp [results, Try.results31, go_sem, r0, r1, r2, r3]) rfl ⟨_, [], rfl, MpA.none _ hB (by have := B06.size; omega), B06⟩
  rw [h4] at HCF
  have hB : wmB s y l Cs = true := by unfold wmB; rw [h1, h2, hP, h4, decide_eq_true h3]; rfl
  have hf : l = 1 ∨ l = 2 ∨ l = 3 := by
    rcases fm_cases l with h | h | h | h
    · exact Or.inl h
    · exact Or.inr (Or.inl h)
    · exact Or.inr (Or.inr h)
    · rw [(fm_no h).2.1] at h1; cases h1
  obtain ⟨lo1, lo2⟩ := lv0_ok hf h4
  have lo3 : ((lv0 l Cs).length : Int) = s * y * (szF l : Int) := by rw [lo1, Int.natCast_mul, hP, h3]
  have HMP : Hid (∀ k, k < 5 → ((mpF l s y (lv0 l Cs) k).length : Int) = sdI s k * sdI y k * (szF l : Int) ∧ ∀ x, x ∈ mpF l s y (lv0 l Cs) k → 0 ≤ x ∧ x ≤ 255) := mp_ok hf hs hy lo3 lo2
  have HHV : Hid (∀ j, j + 1 < 5 → ∀ (w' : World) u, BRow w' u (mpF l s y (lv0 l Cs) j) → Calls Try.prog 58 #[.agg #[.int .i64 (sdI s j), .int .i64 (sdI y j), fmV l, u]] w' fun e w'' => ∃ v, e = .returned (.agg #[.int .i64 (sdI s (j + 1)), .int .i64 (sdI y (j + 1)), fmV l, v]) ∧ Y8 w'.heap.size w'' v (mpF l s y (lv0 l Cs) (j + 1)) ∧ Below w'.heap.size w' w'') := fun j hj w' u r => by
    obtain ⟨m1, m2⟩ := HMP.out j (by omega)
    have z4 : szF l ≤ 4 := by rcases hf with rfl | rfl | rfl <;> decide
    have hk : (mpF l s y (lv0 l Cs) j).length ≤ 1048576 := by
      have a1 := gS_bnd (gS_sd hs j (by omega))
      have a2 := gS_bnd (gS_sd hy j (by omega))
      have h5 : sdI s j * sdI y j ≤ 16 * 16 := Int.mul_le_mul a1.2 a2.2 (by omega) (by decide)
      have h7 : sdI s j * sdI y j * (szF l : Int) ≤ (16 * 16) * 4 := Int.mul_le_mul h5 (by omega) (by omega) (by decide)
      omega
    have h := phalved l hf (sdI s j) (sdI y j) (gS_sd hs j (by omega)) (gS_sd hy j (by omega)) u _ w' r (byte_getD m2) m1 hk
    rw [sd_sd hs j (by omega), sd_sd hy j (by omega)] at h
    exact h
  have HAD : Hid (∀ (q : Col) (pb B : Nat) (v : Value) (M : List Int) (w : World) (A' H' : Int), q.ok → C4 w pb (.int .i64 A') (.int .i64 H') (fmV l) v → Y8 B w v M → pb < B → M.length ≤ 90000 → Calls Try.prog 57 #[.pointer (some ⟨pb, 0, none⟩), colV q] w fun e w' => e = .returned (.tuple #[]) ∧ ∃ v', C4 w' pb (.int .i64 A') (.int .i64 H') (fmV l) v' ∧ Y8 B w' v' (M ++ pkK l q) ∧ Below pb w w') := fun q pb B v M w A' H' hq TP YM h1 h2 => padd l hf A' H' q hq pb B v M w TP YM h1 h2
  have HOK : Hid (∀ i, i < Cs.length → (Cs.getD i dC).ok) := fun i hi => by
    rw [List.all_eq_true] at h4
    exact gdC_iff.1 (h4 (Cs.getD i dC) (by simp [List.getD, hi]))
  have HLN : Hid (∀ m, m ≤ 256 → (catB (fun i => pkK l (Cs.getD i dC)) m).length ≤ 90000) := fun m hm => by
    rw [cat_len (g := fun i => pkK l (Cs.getD i dC)) (z := szF l) m (fun i _ => pk_len hf _)]
    have h4 : szF l ≤ 4 := by rcases hf with rfl | rfl | rfl <;> decide
    have h5 : m * szF l ≤ 256 * 4 := Nat.mul_le_mul hm h4
    omega
  have HCN : Hid (∀ w, Calls Try.prog 52 #[.int .i64 s, .int .i64 y] w fun e w' => e = .returned (.int .i64 ((lcN s y : Nat) : Int)) ∧ w' = w) := fun w => count52 s y w hs hy
  have nl5 := lcN_le s y
  have nl0 := lcN_pos s y
  have e0s : sdI s 0 = s := sdI_zero hs
  have e0y : sdI y 0 = y := sdI_zero hy
  obtain ⟨MF, hMF⟩ : ∃ MF, mpF l s y (lv0 l Cs) = MF := ⟨_, rfl⟩
  have hM0 : MF 0 = catB (fun i => pkK l (Cs.getD i dC)) Cs.length := by rw [← hMF]; rfl
  have HMA : Hid (∀ (w' : World) lv us, T8 w.heap.size w' lv us → us.length = lcN s y → Lv w.heap.size w' us MF → MpA w.heap.size w' (.agg #[.int .i64 s, .int .i64 y, .int .i64 l, lv]) s y l Cs us) := fun w' lv us t1 t2 t3 => ⟨lv, by rw [hB]; rfl, t1, by rw [hB]; exact t2, by rw [hMF]; exact t3⟩
  rw [hB]
  rw [hMF] at HHV
  have HM0 := Hid.mk hM0
  generalize lcN s y = NL at HCN nl5 nl0 HMA
  have HSD : Hid (sdI s 0 = s ∧ sdI y 0 = y) := ⟨e0s, e0y⟩
  clear h1 h2 h4 hs hy lo1 lo2 lo3 HMP hMF hM0 e0s e0y
  obtain ⟨ft, hft⟩ := fmV_is (show fmB l = true by rcases hf with rfl | rfl | rfl <;> rfl)
  rw [hft] at HFO HHV HAD
  clear hft hf
  unfold colV at HAD
  generalize sdI s = SS at HHV HSD
  generalize sdI y = SY at HHV HSD
  have HXC : Hid (∀ w', Below w.heap.size w w' → ∀ i, i < Cs.length → ∃ g o, xa = some ⟨g, o, none⟩ ∧ w'.cell? ⟨g, o + i * 4, none⟩ = some (.int .i64 (Cs.getD i dC).r) ∧ w'.cell? ⟨g, o + i * 4 + 1, none⟩ = some (.int .i64 (Cs.getD i dC).g) ∧ w'.cell? ⟨g, o + i * 4 + 2, none⟩ = some (.int .i64 (Cs.getD i dC).b) ∧ w'.cell? ⟨g, o + i * 4 + 3, none⟩ = some (.int .i64 (Cs.getD i dC).a)) := fun w' b i hi => by
    obtain ⟨ad, c, e1, hc⟩ := HXX.out w' b
    injection e1 with e1 _ _
    subst e1
    exact hc i hi
  have HGK : Hid (∀ i, (fun i => pkK l (Cs.getD i dC)) i = pkK l (Cs.getD i dC)) := fun _ => rfl
  clear HXX
  generalize (fun i => pkK l (Cs.getD i dC)) = g0 at *
  have HP3 := Hid.mk h3
  have hnb : Cs.length ≤ 256 := by omega
  clear h3
  generalize Cs.length = n at *
  go_enter Try.func31, Try.ntmps31
  go_upto_region 1 with fail
  rw [HV0.out]
  clear HV0
  go_upto_region 6 with (first | (go_at_call 43; refine (HFO.out _).mono ?_; rintro e9 w9 ⟨rfl, hw⟩; subst w9) | (go_at_call 51; refine (HGS.out _).mono ?_; rintro e9 w9 ⟨rfl, hw⟩; subst w9) | (go_at_call 56; refine (HCF.out _ BX0).mono ?_; rintro e9 w2 ⟨rfl, B2⟩; (have D2 := D0.next B2); (have BX2 := BX0.trans (B2.mono BX0.size))))
  have TP := C4.new w2 81 (.int .i64 s) (.int .i64 y) (.iface ft (.agg #[])) (.slice none 0 0)
  have D3 := D2.next (alloc_b (o := (.cells #[.int .i64 s, .int .i64 y, .iface ft (.agg #[]), .slice none 0 0] 81)))
  have BX3 := BX2.alloc BX2.size (.cells #[.int .i64 s, .int .i64 y, .iface ft (.agg #[]), .slice none 0 0] 81)
  have hpb : w.heap.size < w2.heap.size := D2.hi
  have hsz : (w2.alloc (.cells #[.int .i64 s, .int .i64 y, .iface ft (.agg #[]), .slice none 0 0] 81)).heap.size = w2.heap.size + 1 := by simp
  obtain ⟨pb, hpe⟩ : ∃ z, w2.heap.size = z := ⟨_, rfl⟩
  rw [hpe] at TP hsz hpb ⊢
  generalize w2.alloc (.cells #[.int .i64 s, .int .i64 y, .iface ft (.agg #[]), .slice none 0 0] 81) = V1 at TP D3 BX3 hsz ⊢
  clear D2 BX2 B2 hpe D0 BX0 x0 x1 x2 x3 xf HFO HGS HCF
  have Y0 : Y8 (pb + 1) V1 (.slice none 0 0) (catB g0 0) := Y8.nil _ _ (by omega)
  go_loopw [49] (fun kv wr => ∃ (k : Nat) (v : Value), k ≤ n ∧ kv = .int .i64 (k : Int) ∧ Hid (C4 wr pb (.int .i64 s) (.int .i64 y) (.iface ft (.agg #[])) v ∧ Y8 (pb + 1) wr v (catB g0 k) ∧ Below pb V1 wr)) (fun kv _ => n - (intOf kv).toNat)
  case atStart => exact ⟨0, _, Nat.zero_le _, rfl, ⟨TP, Y0, Below.refl _ _⟩⟩
  case round =>
    clear Y0 TP
    obtain ⟨k, v, hk, rfl, HR⟩ := hrel
    by_cases hkn : k < n
    · have i1 : (k : Int) < (n : Int) := by omega
      have i0 : (0 : Int) ≤ (k : Int) := by omega
      have BW : Below w.heap.size w wr := BX3.trans (HR.out.2.2.mono (by omega))
      obtain ⟨g, o, rfl, q0, q1, q2, q3⟩ := HXC.out wr BW k hkn
      have HOQ := Hid.mk (HOK.out k hkn)
      have HLM := Hid.mk (HLN.out k (by omega))
      have HCS : Hid (catB g0 (k + 1) = catB g0 k ++ g0 k) := rfl
      have HGE := Hid.mk (HGK.out k)
      generalize Cs.getD k dC = q at q0 q1 q2 q3 HOQ HGE
      clear BW
      go_wp2_with (go_at_call 57; refine (HAD.out q pb (pb + 1) v (catB g0 k) _ _ _ HOQ.out (HR.out.1.next (alloc_b (o := (.cells #[.int .i64 q.r, .int .i64 q.g, .int .i64 q.b, .int .i64 q.a] 25)))) (HR.out.2.1.alloc (.cells #[.int .i64 q.r, .int .i64 q.g, .int .i64 q.b, .int .i64 q.a] 25)) (by omega) HLM.out).mono ?_; rintro e9 w4 ⟨rfl, v', C4n, Y4n, B4⟩; skip)
      go_roundw
      case rel => exact ⟨k + 1, v', by omega, by go_num, ⟨C4n, by rw [HCS.out, HGE.out]; exact Y4n, (HR.out.2.2.trans (alloc_b.mono (Nat.le_of_lt HR.out.1.hi))).trans B4⟩⟩
      case measure => simp [intOf]; omega
    · obtain rfl : n = k := by omega
      have i1 : ¬ (n : Int) < (n : Int) := by omega
      obtain ⟨TW, YW, BR⟩ := HR.out
      rw [← HM0.out] at YW
      obtain ⟨ya, yc, rfl⟩ := YW.is
      obtain ⟨yn, hyn⟩ : ∃ z, (MF 0).length = z := ⟨_, rfl⟩
      rw [hyn] at YW TW
      clear hyn HR
      have t0 := TW.c0
      have t1 := TW.c1
      have t2 := TW.c2
      have t3 := TW.c3
      go_upto_region 11 with fail
      clear t0 t1 t2 t3
      have hpw : pb < wr.heap.size := TW.hi
      have T1 := ((T8.one wr (.slice ya yn yc)).low (show pb + 1 ≤ wr.heap.size by omega)).next (alloc_b (o := (.cells #[.int .i64 s, .int .i64 y, .int .i64 l, .slice (some ⟨wr.heap.size, 0, none⟩) 1 1] 43)))
      have TT := C4.new (wr.alloc (.cells #[.slice ya yn yc] 28)) 43 (.int .i64 s) (.int .i64 y) (.int .i64 l) (.slice (some ⟨wr.heap.size, 0, none⟩) 1 1)
      rw [World.size_alloc] at TT
      have TP := (TW.next (alloc_b (o := (.cells #[.slice ya yn yc] 28)))).next (alloc_b (o := (.cells #[.int .i64 s, .int .i64 y, .int .i64 l, .slice (some ⟨wr.heap.size, 0, none⟩) 1 1] 43)))
      have Y1 := (YW.alloc (.cells #[.slice ya yn yc] 28)).alloc (.cells #[.int .i64 s, .int .i64 y, .int .i64 l, .slice (some ⟨wr.heap.size, 0, none⟩) 1 1] 43)
      have Bv : Below pb V1 ((wr.alloc (.cells #[.slice ya yn yc] 28)).alloc (.cells #[.int .i64 s, .int .i64 y, .int .i64 l, .slice (some ⟨wr.heap.size, 0, none⟩) 1 1] 43)) := (BR.trans (alloc_b.mono (by omega))).trans (alloc_b.mono (by simp; omega))
      have hown : ∀ z, (Value.slice ya yn yc).ownBlock = some z → z < wr.heap.size := fun z hz => (YW.lt z hz).2
      have LV1 : Lv (pb + 1) ((wr.alloc (.cells #[.slice ya yn yc] 28)).alloc (.cells #[.int .i64 s, .int .i64 y, .int .i64 l, .slice (some ⟨wr.heap.size, 0, none⟩) 1 1] 43)) [.slice ya yn yc] MF := Lv.snoc (Lv.nil _ _ _) (C := pb + 1) Y1 (fun i g hi => absurd hi (by simp)) (Nat.le_refl _)
      have hszt : wr.heap.size + 1 < ((wr.alloc (.cells #[.slice ya yn yc] 28)).alloc (.cells #[.int .i64 s, .int .i64 y, .int .i64 l, .slice (some ⟨wr.heap.size, 0, none⟩) 1 1] 43)).heap.size := by simp
      obtain ⟨lb, hlb⟩ : ∃ z, wr.heap.size = z := ⟨_, rfl⟩
      rw [hlb] at T1 TT hown hszt Bv TP LV1 hpw ⊢
      clear Y1 YW TW
      generalize (wr.alloc (.cells #[.slice ya yn yc] 28)).alloc (.cells #[.int .i64 s, .int .i64 y, .int .i64 l, .slice (some ⟨lb, 0, none⟩) 1 1] 43) = V2 at T1 TT TP Bv LV1 hszt ⊢
      obtain ⟨tb, htb⟩ : ∃ z, lb + 1 = z := ⟨_, rfl⟩
      rw [htb] at TT hszt ⊢
      have M1 : Mq pb tb pb s y l (.iface ft (.agg #[])) SS SY MF V2 0 [.slice ya yn yc] (.slice (some ⟨lb, 0, none⟩) 1 1) V2 := ⟨by rw [HSD.out.1, HSD.out.2]; exact TP, TT, T1, LV1, by simp [Value.ownBlock]; omega, fun i hi e => by
        obtain rfl : i = 0 := by simpa using hi
        have := hown tb e
        omega, Below.refl _ _, rfl⟩
      have HM1 := Hid.mk M1
      have BX4 : Below w.heap.size w V2 := BX3.trans (Bv.mono (by omega))
      have D4 := D3.low Bv hpb
      have htbp : pb < tb := by omega
      clear M1 T1 TT TP LV1 Bv BR hown hlb HOK HLN HGK HAD HM0 HXC
      go_loopw [] (fun wx => ∃ (j : Nat) (us : List Value) (lv : Value), j + 1 ≤ NL ∧ Hid (Mq pb tb pb s y l (.iface ft (.agg #[])) SS SY MF V2 j us lv wx)) (fun wx => NL - lvn tb wx)
      case atStart => exact ⟨0, _, _, by omega, HM1⟩
      case round =>
        clear HM1
        obtain ⟨j, us, lv, hj, HM⟩ := hrel
        obtain ⟨lg, lc, rfl⟩ : ∃ lg lc, lv = .slice (some ⟨lg, 0, none⟩) (j + 1) lc := by
          have h2 := HM.out.o.1
          rw [HM.out.h] at h2
          rcases h2.2 with ⟨_, h0⟩ | ⟨g, cap, cur, h0, _⟩
          · omega
          · exact ⟨g, cap, h0⟩
        have TT := HM.out.t
        have HLW : Hid (lvn tb wr = j + 1) := by show _ = _; unfold lvn; rw [TT.c3]
        have t0 := TT.c0
        have t1 := TT.c1
        have t2 := TT.c2
        have t3 := TT.c3
        clear TT
        go_wp2
        go_quiet (first | (go_at_call 52; exact Calls.quiet_of_same (HCN.out _)))
        have BD : Below wr.heap.size wr (World.drewN wr nq) := below_drewN (Below.refl _ _) nq
        have HM2 := Hid.mk (HM.out.next BD (by have := HM.out.p.hi; omega))
        have BT : Hid ((World.drewN wr nq).cell? ⟨tb, 3, none⟩ = wr.cell? ⟨tb, 3, none⟩) := rfl
        generalize hWW : World.drewN wr nq = w5 at HM2 BT ⊢
        clear BD hWW t0 t1 t2 t3
        by_cases hjn : j + 1 < NL
        · have i1 : (j : Int) + 1 < (NL : Int) := by omega
          have i2 : ((j + 1 : Nat) : Int) < (NL : Int) := by omega
          have hjl : j < us.length := by rw [HM2.out.h]; omega
          have HHJ : Hid (∃ ua ul uc, us.getD j (.slice none 0 0) = .slice ua ul uc ∧ Calls Try.prog 58 #[.agg #[.int .i64 (SS j), .int .i64 (SY j), .iface ft (.agg #[]), .slice ua ul uc]] w5 fun e w' => ∃ va vn vc, e = .returned (.agg #[.int .i64 (SS (j + 1)), .int .i64 (SY (j + 1)), .iface ft (.agg #[]), .slice va vn vc]) ∧ Y8 w5.heap.size w' (.slice va vn vc) (MF (j + 1)) ∧ Below w5.heap.size w5 w') := by
            have hr := HM2.out.r.r j hjl
            obtain ⟨ua, uc, hu⟩ := hr.is
            refine ⟨ua, _, uc, hu, ?_⟩
            have hc := HHV.out j (by omega) w5 _ hr.brow
            rw [hu] at hc
            refine hc.mono ?_
            rintro e w' ⟨v, h1, h2, h3⟩
            obtain ⟨va, vc, rfl⟩ := h2.is
            exact ⟨va, _, vc, h1, h2, h3⟩
          obtain ⟨ua, ul, uc, hu, hc⟩ := HHJ.out
          have HC := Hid.mk hc
          have MP := HM2.out.p
          rw [hu] at MP
          have p0 := MP.c0
          have p1 := MP.c1
          have p2 := MP.c2
          have p3 := MP.c3
          clear hc hu HHJ HM
          go_upto_region 13 with (go_at_call 58; refine HC.out.mono ?_; rintro e9 w6 ⟨va, vn, vc, rfl, Y6, B6⟩; (have MP6 := MP.next B6); (have Y6 := Hid.mk Y6); (have p0 := MP6.c0); (have p1 := MP6.c1); (have p2 := MP6.c2); (have p3 := MP6.c3); (have pf := MP6.f); (have pf := MP6.f))
          obtain ⟨T7, O7, P7⟩ := HM2.out.mid (v := .slice va vn vc) htbp B6 (.int .i64 (SS (j + 1))) (.int .i64 (SY (j + 1)))
          have HST : Hid (∀ (w8 : World) (g cap : Nat) (o : Obj), ((set4 w6 pb (.int .i64 (SS (j + 1))) (.int .i64 (SY (j + 1))) (.iface ft (.agg #[])) (.slice va vn vc)).alloc o).grownBy w8 (Value.slice (some ⟨lg, 0, none⟩) (j + 1) lc).ownBlock → T8 (pb + 1) w8 (.slice (some ⟨g, 0, none⟩) (us.length + 1) cap) (us ++ [.slice va vn vc]) → ((Value.slice (some ⟨lg, 0, none⟩) (j + 1) lc).ownBlock = some g ∨ g = ((set4 w6 pb (.int .i64 (SS (j + 1))) (.int .i64 (SY (j + 1))) (.iface ft (.agg #[])) (.slice va vn vc)).alloc o).heap.size) → Mq pb tb pb s y l (.iface ft (.agg #[])) SS SY MF V2 (j + 1) (us ++ [.slice va vn vc]) (.slice (some ⟨g, 0, none⟩) (us.length + 1) cap) (w8.setCell ⟨tb, 3, none⟩ (.slice (some ⟨g, 0, none⟩) (us.length + 1) cap)) ∧ C4 w8 tb (.int .i64 s) (.int .i64 y) (.int .i64 l) (.slice (some ⟨lg, 0, none⟩) (j + 1) lc)) := fun w8 g cap o hgr HT hgo => ⟨HM2.out.step htbp B6 Y6.out hgr HT hgo, (T7.next (alloc_b (o := o))).block (hgr.block tb (T7.next (alloc_b (o := o))).hi (fun e => HM2.out.n1 e.symm)) hgr.size⟩
          unfold set4 at T7 O7 P7 HST
          generalize ((((w6.setCell ⟨pb, 0, none⟩ (.int .i64 (SS (j + 1)))).setCell ⟨pb, 1, none⟩ (.int .i64 (SY (j + 1)))).setCell ⟨pb, 2, none⟩ (.iface ft (.agg #[]))).setCell ⟨pb, 3, none⟩ (.slice va vn vc)) = w7 at T7 O7 P7 HST ⊢
          have hul : us.length = j + 1 := HM2.out.h
          rw [hul] at HST
          clear p0 p1 p2 p3 pf MP MP6 Y6 B6 HM2
          have t0 := T7.c0
          have t1 := T7.c1
          have t2 := T7.c2
          have t3 := T7.c3
          have p0 := P7.c0
          have p1 := P7.c1
          have p2 := P7.c2
          have p3 := P7.c3
          go_wp2_with (at_builtin; refine wpList_append_t8 (u := .slice va vn vc) (.tmp 73) (.tmp 76) rfl rfl rfl rfl (O7.next (alloc_b (o := (.cells #[.slice va vn vc] 28)))) (by simp) rfl (by omega) ?_)
          intro g cap w8 HT hgr hgo
          obtain ⟨HN, T8c⟩ := HST.out w8 g cap _ hgr HT (by rw [World.size_alloc]; exact hgo)
          have HN := Hid.mk HN
          clear HT hgr hgo t0 t1 t2 t3 p0 p1 p2 p3 HST T7 O7 P7
          have t0 := T8c.c0
          have t1 := T8c.c1
          have t2 := T8c.c2
          have t3 := T8c.c3
          have tf := T8c.f
          go_wp2
          go_roundw
          case rel => exact ⟨j + 1, _, _, by omega, HN⟩
          case measure =>
            have e1 : lvn tb (w8.setCell ⟨tb, 3, none⟩ (.slice (some ⟨g, 0, none⟩) (j + 1 + 1) cap)) = j + 1 + 1 := by unfold lvn; rw [HN.out.t.c3]
            have e2 := HLW.out
            omega
        · have i1 : ¬ (j : Int) + 1 < (NL : Int) := by omega
          have i2 : ¬ ((j + 1 : Nat) : Int) < (NL : Int) := by omega
          have D5 := D4.low HM2.out.b hpb
          have MT := HM2.out.t
          have t0 := MT.c0
          have t1 := MT.c1
          have t2 := MT.c2
          have t3 := MT.c3
          have x0 := D5.c0
          have x1 := D5.c1
          have x2 := D5.c2
          have x3 := D5.c3
          have xf := D5.f
          have O9 := only_set4 w5 w.heap.size (.int .i64 s) (.int .i64 y) (.int .i64 l) (.slice (some ⟨lg, 0, none⟩) (j + 1) lc)
          have D9 := D5.put (.int .i64 s) (.int .i64 y) (.int .i64 l) (.slice (some ⟨lg, 0, none⟩) (j + 1) lc)
          have BW5 : Below w.heap.size w w5 := BX4.trans (HM2.out.b.mono (by omega))
          have B9 : Below w.heap.size w _ := BW5.trans (O9.below (Nat.le_refl _) BW5.size)
          have T9 := (HM2.out.o.grown (only_grown O9) (Or.inr (by have := (HM2.out.o.lt lg rfl).1; simp [Value.ownBlock]; omega))).low (show w.heap.size ≤ pb + 1 by omega)
          have L9 := HM2.out.r.grown (only_grown O9) (fun i hi => by
            cases e : (us.getD i (.slice none 0 0)).ownBlock with
            | none => exact Or.inl rfl
            | some q => exact Or.inr (by have := (HM2.out.r.lt i q hi e).1; simp; omega))
          have L9 : Lv w.heap.size _ us MF := ⟨fun i hi => (L9.r i hi).low (by omega), L9.m⟩
          have hul : us.length = NL := by rw [HM2.out.h]; omega
          unfold set4 at D9 B9 T9 L9
          have HF := Hid.mk (And.intro D9 (And.intro B9 (And.intro T9 (And.intro L9 hul))))
          clear O9 D9 B9 T9 L9 BW5 hul HM HM2 MT D5
          go_wp2
          clear x0 x1 x2 x3 xf t0 t1 t2 t3
          obtain ⟨D9, B9, T9, L9, hul⟩ := HF.out
          have r0 := D9.c0
          have r1 := D9.c1
          have r2 := D9.c2
          have r3 := D9.c3
          exact bodyPost_ret (v := .tuple #[.agg #[.int .i64 s, .int .i64 y, .int .i64 l, .slice (some ⟨lg, 0, none⟩) (j + 1) lc], .bool true]) (by simp [results, Try.results31, go_sem, r0, r1, r2, r3]) rfl ⟨_, rfl, ⟨us, HMA.out _ _ us T9 hul L9⟩, B9⟩
end Go.Proofs.Ythkngcdfnemhaaa
