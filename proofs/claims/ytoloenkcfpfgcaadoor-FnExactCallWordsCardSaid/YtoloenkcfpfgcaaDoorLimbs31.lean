/- Contract of the model's l1Div over numbers above 0: quotient and remainder; conditions: at most 9,000 limbs each. -/
import Derived.Test.YtoloenkcfpfgcaaDoorLimbs30
import Derived.Test.YtoloenkcfpfgcaaDoorLimbs22
import Derived.Test.YtoloenkcfpfgcaaDoorScaled
import Derived.Deep.RegionHeld3
import Derived.Deep.DeepCutAuto
namespace Go.Proofs.YtoloenkcfpfgcaaDoor
open Go.ChangeShapes Go.WideShapes Go.ChangeAt Go.RowKit
/-- Two numbers and two places as they stand in memory behind an entry. -/
structure A4 (k : Nat) (w0 w : World) (p0 p1 p2 q0 q1 q2 : Value) : Prop where
  A : Three w k p0 p1 p2
  B : Three w (k + 1) q0 q1 q2
  Z : Three w (k + 2) (.int .i64 0) (.bool false) (.slice none 0 0)
  Y : Three w (k + 3) (.int .i64 0) (.bool false) (.slice none 0 0)
  below : Below k w0 w
  big : k + 4 ≤ w.heap.size
theorem A4.next {k : Nat} {w0 w w' : World} {p0 p1 p2 q0 q1 q2 : Value} (h : A4 k w0 w p0 p1 p2 q0 q1 q2) (hb : Below w.heap.size w w') : A4 k w0 w' p0 p1 p2 q0 q1 q2 := by
  have z := h.big
  have zz := hb.size
  exact ⟨h.A.next hb, h.B.next hb, h.Z.next hb, h.Y.next hb, h.below.trans (hb.mono (by omega)), by omega⟩
theorem A4.drew {k : Nat} {w0 w : World} {p0 p1 p2 q0 q1 q2 : Value} (h : A4 k w0 w p0 p1 p2 q0 q1 q2) : A4 k w0 w.drew p0 p1 p2 q0 q1 q2 := ⟨h.A, h.B, h.Z, h.Y, h.below.drew, h.big⟩
theorem A4.start {w : World} {p0 p1 p2 q0 q1 q2 : Value} : A4 w.heap.size w ((((w.alloc (.cells #[p0, p1, p2] 50)).alloc (.cells #[q0, q1, q2] 50)).alloc (.cells #[.int .i64 0, .bool false, .slice none 0 0] 50)).alloc (.cells #[.int .i64 0, .bool false, .slice none 0 0] 50)) p0 p1 p2 q0 q1 q2 := by
  have e1 : Three (w.alloc (.cells #[p0, p1, p2] 50)) w.heap.size p0 p1 p2 := heap_alloc_new _ _
  have b1 : Below w.heap.size w (w.alloc (.cells #[p0, p1, p2] 50)) := (Below.refl _ _).alloc (Nat.le_refl _) _
  have al : ∀ (v : World) (o : Obj), Below v.heap.size v (v.alloc o) := fun v o => (Below.refl _ _).alloc (Nat.le_refl _) _
  refine ⟨((e1.next (al _ _)).next (al _ _)).next (al _ _), ?_, ?_, ?_, ?_, by simp⟩
  · have e2 : Three ((w.alloc (.cells #[p0, p1, p2] 50)).alloc (.cells #[q0, q1, q2] 50)) (w.heap.size + 1) q0 q1 q2 := heap_alloc_eq (by simp)
    exact (e2.next (al _ _)).next (al _ _)
  · have e3 : Three (((w.alloc (.cells #[p0, p1, p2] 50)).alloc (.cells #[q0, q1, q2] 50)).alloc (.cells #[.int .i64 0, .bool false, .slice none 0 0] 50)) (w.heap.size + 2) (.int .i64 0) (.bool false) (.slice none 0 0) := heap_alloc_eq (by simp)
    exact e3.next (al _ _)
  · exact heap_alloc_eq (by simp)
  · exact (((b1.alloc (by simp) _).alloc (by simp; omega) _).alloc (by simp; omega) _)
theorem Raw.next {w w' : World} {o n : Nat} {f : Nat → Nat} (h : Raw w o n f) (hb : Below w.heap.size w w') : Raw w' o n f :=
  ⟨fun i hi => (hb.cell (p := ⟨o, i, none⟩) h.hi).trans (h.cell i hi), by have := hb.size; have := h.hi; omega, h.lt⟩
theorem Raw.other3 {w : World} {o n : Nat} {f : Nat → Nat} (h : Row w o n f) {j : Nat} (hj : o ≠ j) (x' y' z' : Value) : Row (((w.setCell ⟨j, 0, none⟩ x').setCell ⟨j, 1, none⟩ y').setCell ⟨j, 2, none⟩ z') o n f :=
  ((h.other j 0 x' (fun e => hj e.symm)).other j 1 y' (fun e => hj e.symm)).other j 2 z' (fun e => hj e.symm)
theorem num_madeR {w : World} {o n : Nat} {f : Nat → Nat} (O : Raw w o n f) (neg : Bool) (cb : Nat) (hc : n ≤ cb) (hn : n ≤ 100000) :
    Num w n (madeZ neg o cb (trim f n) f) (sg neg (val f n)) := by
  have tl := trim_le f n
  have tv := val_trim f n
  rw [← tv]
  unfold madeZ
  by_cases h : 2 < trim f n
  · rw [if_pos h]
    refine Or.inr ⟨neg, o, trim f n, cb, f, rfl, by omega, by omega, by omega, by omega, fun i hi => O.cell i (by omega), O.hi, O.lt, ?_, rfl⟩
    rcases trim_top f n with h0 | h0
    · omega
    · exact h0
  · rw [if_neg h]
    have e := two_val f (trim f n) (by omega)
    have lt := val_lt f (trim f n) (fun i _ => O.lt i)
    have p2 : 1000000000 ^ trim f n ≤ 1000000000 ^ 2 := Nat.pow_le_pow_right (by decide) (by omega)
    have p2' : 1000000000 ^ trim f n ≤ 1000000000000000000 := by simpa using p2
    rw [e]
    unfold sg
    cases neg
    · exact Or.inl ⟨rfl, by simp; omega, by simp; omega⟩
    · exact Or.inl ⟨rfl, by simp; omega, by simp; omega⟩

/-- The two numbers in memory, and the two rows of a long division. -/
structure DC (k : Nat) (w0 w : World) (p0 p1 p2 q0 q1 q2 : Value) (oq nq : Nat) (qf : Nat → Nat) (or nr : Nat) (rf : Nat → Nat) : Prop where
  a4 : A4 k w0 w p0 p1 p2 q0 q1 q2
  rq : Raw w oq nq qf
  rr : Row w or nr rf
theorem DC.next {k : Nat} {w0 w w' : World} {p0 p1 p2 q0 q1 q2 : Value} {oq nq : Nat} {qf : Nat → Nat} {or nr : Nat} {rf : Nat → Nat} (h : DC k w0 w p0 p1 p2 q0 q1 q2 oq nq qf or nr rf) (hb : Below w.heap.size w w') : DC k w0 w' p0 p1 p2 q0 q1 q2 oq nq qf or nr rf := ⟨h.a4.next hb, h.rq.next hb, h.rr.next hb⟩
theorem DC.drew {k : Nat} {w0 w : World} {p0 p1 p2 q0 q1 q2 : Value} {oq nq : Nat} {qf : Nat → Nat} {or nr : Nat} {rf : Nat → Nat} (h : DC k w0 w p0 p1 p2 q0 q1 q2 oq nq qf or nr rf) : DC k w0 w.drew p0 p1 p2 q0 q1 q2 oq nq qf or nr rf := ⟨h.a4.drew, ⟨h.rq.cell, h.rq.hi, h.rq.lt⟩, ⟨h.rr.cell, h.rr.hi, h.rr.lt, h.rr.top⟩⟩
theorem al (v : World) (o : Obj) : Below v.heap.size v (v.alloc o) := (Below.refl _ _).alloc (Nat.le_refl _) _
theorem DC.alloc {k : Nat} {w0 w : World} {p0 p1 p2 q0 q1 q2 : Value} {oq nq : Nat} {qf : Nat → Nat} {or nr : Nat} {rf : Nat → Nat} (h : DC k w0 w p0 p1 p2 q0 q1 q2 oq nq qf or nr rf) (o : Obj) : DC k w0 (w.alloc o) p0 p1 p2 q0 q1 q2 oq nq qf or nr rf := h.next (al _ _)
theorem A4.set3 {k : Nat} {w0 w : World} {p0 p1 p2 q0 q1 q2 : Value} (h : A4 k w0 w p0 p1 p2 q0 q1 q2) {j : Nat} (hj : k + 4 ≤ j) (x' y' z' : Value) : A4 k w0 (((w.setCell ⟨j, 0, none⟩ x').setCell ⟨j, 1, none⟩ y').setCell ⟨j, 2, none⟩ z') p0 p1 p2 q0 q1 q2 :=
  ⟨h.A.other (by omega) _ _ _, h.B.other (by omega) _ _ _, h.Z.other (by omega) _ _ _, h.Y.other (by omega) _ _ _, below_set3 h.below (by omega) _ _ _, by simpa using h.big⟩
theorem DC.set3 {k : Nat} {w0 w : World} {p0 p1 p2 q0 q1 q2 : Value} {oq nq : Nat} {qf : Nat → Nat} {or nr : Nat} {rf : Nat → Nat} (h : DC k w0 w p0 p1 p2 q0 q1 q2 oq nq qf or nr rf) {j : Nat} (hj : k + 4 ≤ j) (h1 : oq < j) (h2 : or < j) (x' y' z' : Value) : DC k w0 (((w.setCell ⟨j, 0, none⟩ x').setCell ⟨j, 1, none⟩ y').setCell ⟨j, 2, none⟩ z') p0 p1 p2 q0 q1 q2 oq nq qf or nr rf := by
  have hq : Row w oq nq qf ∨ True := Or.inr trivial
  refine ⟨h.a4.set3 hj _ _ _, ⟨fun i hi => ?_, by simpa using h.rq.hi, h.rq.lt⟩, Raw.other3 h.rr (by omega) _ _ _⟩
  have hn : ∀ c : Nat, (⟨j, c, none⟩ : Addr) ≠ ⟨oq, i, none⟩ := fun c e => by injection e with e1 _; omega
  rw [World.cell?_setCell_other (h := hn 2), World.cell?_setCell_other (h := hn 1), World.cell?_setCell_other (h := hn 0)]
  exact h.rq.cell i hi
theorem cell_set3d {w : World} {b k i : Nat} {x' y' z' v : Value} (hk : k ≠ b) (h : w.cell? ⟨k, i, none⟩ = some v) :
    (((w.setCell ⟨b, 0, none⟩ x').setCell ⟨b, 1, none⟩ y').setCell ⟨b, 2, none⟩ z').drew.cell? ⟨k, i, none⟩ = some v := cell_set3 hk h
theorem three_allocd (v : World) (x y z : Value) : Three (v.alloc (.cells #[x, y, z] 50)).drew v.heap.size x y z := heap_alloc_new _ _
theorem three_alloc (v : World) (x y z : Value) : Three (v.alloc (.cells #[x, y, z] 50)) v.heap.size x y z := heap_alloc_new _ _

set_option maxRecDepth 100000 in
set_option maxHeartbeats 4000000 in
theorem rDiv_great (sb : Bool) (n m : Nat) (x y : Nat → Nat) (va vb : Int) (ga gb : Bool) (pa pb : Option Addr) (ta ca tb cb : Nat) (w : World)
    (RA : Rep w (.agg #[.int .i64 va, .bool ga, .slice pa ta ca]) false false n x) (RB : Rep w (.agg #[.int .i64 vb, .bool gb, .slice pb tb cb]) sb false (m + 1) y) (hn : n ≤ 9000) (hm : m ≤ 9000) (top : y m ≠ 0) :
    Calls Tryd.prog 66 #[.agg #[.int .i64 va, .bool ga, .slice pa ta ca], .agg #[.int .i64 vb, .bool gb, .slice pb tb cb]] w fun r w' => ∃ vq vr, r = .returned (.tuple #[vq, vr]) ∧ Num w' (n + 2) vq ((val x n / val y (m + 1) : Nat) : Int) ∧ Num w' (m + 3) vr ((val x n % val y (m + 1) : Nat) : Int) ∧ Below w.heap.size w w' := by
  have hx := RA.lt
  have hy := RB.lt
  have HX : Hid (∀ i, x i < 1000000000) := hx
  have HY : Hid (∀ i, y i < 1000000000) := hy
  clear hx hy
  go_enter Tryd.func66, Tryd.ntmps66
  go_wp2_with (first | (go_at_call 61; (with_reducible show Calls Tryd.prog 61 #[Value.agg #[Value.int IntKind.i64 va, Value.bool ga, Value.slice pa ta ca]] _ _); refine (RA.sm _ A4.start.below).mono ?_; rintro e w1 ⟨rfl, hb1⟩; have R1 := A4.start.next hb1; obtain ⟨⟨u3, u4, u5⟩, _⟩ := blk3 R1.B))
  obtain ⟨⟨g0, g1, g2⟩, _⟩ := blk3 R1.A
  obtain ⟨⟨g3, g4, g5⟩, _⟩ := blk3 R1.B
  go_cut [8, 9] (fun qv rv wx => ∃ oq nq qf or nr cr rf, qv = .slice (some ⟨oq, 0, none⟩) nq nq ∧ rv = .slice (some ⟨or, 0, none⟩) nr cr ∧ nq ≤ n + 2 ∧ nr ≤ cr ∧ nr ≤ m + 3 ∧ Raw wx oq nq qf ∧ Row wx or nr rf ∧ Hid (val qf nq = val x n / val y (m + 1)) ∧ Hid (val rf nr = val x n % val y (m + 1)) ∧ A4 w.heap.size w wx (.int .i64 va) (.bool ga) (.slice pa ta ca) (.int .i64 vb) (.bool gb) (.slice pb tb cb))
  case first =>
    go_region_held3 (fun v => v.cell? ⟨w.heap.size, 0, none⟩ = some (.int .i64 va) ∧ v.cell? ⟨w.heap.size, 1, none⟩ = some (.bool ga) ∧ v.cell? ⟨w.heap.size, 2, none⟩ = some (.slice pa ta ca) ∧ v.cell? ⟨w.heap.size + 1, 0, none⟩ = some (.int .i64 vb) ∧ v.cell? ⟨w.heap.size + 1, 1, none⟩ = some (.bool gb) ∧ v.cell? ⟨w.heap.size + 1, 2, none⟩ = some (.slice pb tb cb)) (first | with_reducible exact ⟨g0, g1, g2, g3, g4, g5⟩ | with_reducible exact ⟨s0, s1, s2, s3, s4, s5⟩ | with_reducible exact ⟨t0, t1, t2, t3, t4, t5⟩ | with_reducible exact ⟨l0, l1, l2, l3, l4, l5⟩ | (go_keep; done)) (first | (go_at_call 63; (with_reducible show Calls Tryd.prog 63 #[Value.agg #[Value.int IntKind.i64 va, Value.bool ga, Value.slice pa ta ca]] _ _); refine (RA.lm _ R1.drew.below).mono ?_; rintro e w2 ⟨oa, ca', rfl, ha, la, hb2⟩; have R2 := R1.drew.next hb2; obtain ⟨⟨s0, s1, s2⟩, _⟩ := blk3 R2.A; obtain ⟨⟨s3, s4, s5⟩, _⟩ := blk3 R2.B) | (go_at_call 63; (with_reducible show Calls Tryd.prog 63 #[Value.agg #[Value.int IntKind.i64 vb, Value.bool gb, Value.slice pb tb cb]] _ _); refine (RB.lm _ R2.below).mono ?_; rintro e w3 ⟨ob, cb', rfl, hb, lb, hb3⟩; have R3 := R2.next hb3; obtain ⟨⟨t0, t1, t2⟩, _⟩ := blk3 R3.A; obtain ⟨⟨t3, t4, t5⟩, _⟩ := blk3 R3.B) | (go_at_call 83; refine (divD n m oa ob ca' cb' x y w3 (by omega) (by omega) (fun i hi => (hb3.cell (p := ⟨oa, i, none⟩) la).trans (ha i hi)) hb (by have := hb3.size; omega) lb HX.out HY.out top).mono ?_; rintro e w4 ⟨oq, nq, qf, or, nr, cr, rf, rfl, nq2, nrc, nr3, RQ, RR, hvq, hvr, hb4⟩; have R4 := R3.next hb4; have HQ : Hid (val qf nq = val x n / val y (m + 1)) := hvq; have HRR : Hid (val rf nr = val x n % val y (m + 1)) := hvr; clear hvq hvr; obtain ⟨⟨l0, l1, l2⟩, _⟩ := blk3 R4.A; obtain ⟨⟨l3, l4, l5⟩, _⟩ := blk3 R4.B))
    all_goals go_wp2_with fail
    all_goals go_meet
    all_goals exact ⟨oq, nq, qf, or, nr, cr, rf, rfl, rfl, nq2, nrc, nr3, RQ, RR, HQ, HRR, R4⟩
  case rest =>
    obtain ⟨oq, nq, qf, or, nr, cr, rf, rfl, rfl, nq2, nrc, nr3, RQ, RR, HQ, HRR, R4⟩ := hcut
    clear g0 g1 g2 g3 g4 g5 R1 hb1
    obtain ⟨⟨g0, g1, g2⟩, _⟩ := blk3 R4.A
    obtain ⟨⟨g3, g4, g5⟩, _⟩ := blk3 R4.B
    have D4 : DC w.heap.size w wc (.int .i64 va) (.bool ga) (.slice pa ta ca) (.int .i64 vb) (.bool gb) (.slice pb tb cb) oq nq qf or nr rf := ⟨R4, RQ, RR⟩
    have big4 := R4.big
    have hiq := RQ.hi
    have hir := RR.hi
    clear RQ RR
    have cw : ∀ (v : World), Below wc.heap.size wc v → DC w.heap.size w v (.int .i64 va) (.bool ga) (.slice pa ta ca) (.int .i64 vb) (.bool gb) (.slice pb tb cb) oq nq qf or nr rf := fun v hb => D4.next hb
    go_upto_region 10 with fail
    go_cut [10] (fun pv wx => ∃ o V NN S LL CC, pv = .pointer (some ⟨o, 0, none⟩) ∧ Three wx o (.int .i64 V) (.bool NN) (.slice S LL CC) ∧ Num wx (n + 2) (.agg #[.int .i64 V, .bool NN, .slice S LL CC]) ((val x n / val y (m + 1) : Nat) : Int) ∧ wc.heap.size ≤ o ∧ DC w.heap.size w wx (.int .i64 va) (.bool ga) (.slice pa ta ca) (.int .i64 vb) (.bool gb) (.slice pb tb cb) oq nq qf or nr rf)
    case first =>
      have D4d := D4.drew
      have TZ := D4d.a4.A
      go_region_held3 (fun v => v.cell? ⟨w.heap.size, 0, none⟩ = some (.int .i64 va) ∧ v.cell? ⟨w.heap.size, 1, none⟩ = some (.bool ga) ∧ v.cell? ⟨w.heap.size, 2, none⟩ = some (.slice pa ta ca) ∧ v.cell? ⟨w.heap.size + 1, 0, none⟩ = some (.int .i64 vb) ∧ v.cell? ⟨w.heap.size + 1, 1, none⟩ = some (.bool gb) ∧ v.cell? ⟨w.heap.size + 1, 2, none⟩ = some (.slice pb tb cb)) (first | with_reducible exact ⟨g0, g1, g2, g3, g4, g5⟩ | with_reducible exact ⟨s0, s1, s2, s3, s4, s5⟩ | with_reducible exact ⟨t0, t1, t2, t3, t4, t5⟩ | with_reducible exact ⟨l0, l1, l2, l3, l4, l5⟩ | (with_reducible refine ⟨cell_set3 ?_ l0, cell_set3 ?_ l1, cell_set3 ?_ l2, cell_set3 ?_ l3, cell_set3 ?_ l4, cell_set3 ?_ l5⟩ <;> omega) | (go_keep; done)) (first | (go_at_call 65; (with_reducible show Calls Tryd.prog 65 #[Value.agg #[Value.int IntKind.i64 va, Value.bool ga, Value.slice pa ta ca]] _ _); refine (RA.ng _ (A4.below (DC.a4 (by first | with_reducible exact D4d | with_reducible exact (D4.alloc _).drew)))).mono ?_; rintro e w6 ⟨rfl, hb6⟩; have D6 := DC.next (by first | with_reducible exact D4d | with_reducible exact (D4.alloc _).drew) hb6; (first | have TZ := (three_allocd _ _ _ _).next hb6 | have TZ := TZ.next hb6); have hz6 := hb6.size; (try simp at hz6); obtain ⟨⟨s0, s1, s2⟩, _⟩ := blk3 D6.a4.A; obtain ⟨⟨s3, s4, s5⟩, _⟩ := blk3 D6.a4.B) | (go_at_call 65; (with_reducible show Calls Tryd.prog 65 #[Value.agg #[Value.int IntKind.i64 vb, Value.bool gb, Value.slice pb tb cb]] _ _); refine (RB.ng _ (A4.below (DC.a4 (by first | with_reducible exact D6 | with_reducible exact D6.alloc _)))).mono ?_; rintro e w7 ⟨rfl, hb7⟩; have D7 := DC.next (by first | with_reducible exact D6 | with_reducible exact D6.alloc _) hb7; (first | have TZ := (three_alloc _ _ _ _).next hb7 | have TZ := TZ.next hb7); have hz7 := hb7.size; (try simp at hz7); obtain ⟨⟨t0, t1, t2⟩, _⟩ := blk3 D7.a4.A; obtain ⟨⟨t3, t4, t5⟩, _⟩ := blk3 D7.a4.B) | (go_at_call 64; refine (make_any false nq oq nq qf _ (by omega) (Nat.le_refl _) (Raw.cell (DC.rq (by first | with_reducible exact D7 | with_reducible exact D7.alloc _))) (Raw.hi (DC.rq (by first | with_reducible exact D7 | with_reducible exact D7.alloc _))) D7.rq.lt).mono ?_; rintro e w8 ⟨he, hb8⟩; obtain ⟨V, NN, S, LL, CC, hM⟩ := madeZ_parts false oq nq (trim qf nq) qf; have HM : Hid (_ = _) := hM; (have he2 := he.trans (congrArg Ending.returned hM)); clear he hM; subst he2; have D8 := DC.next (by first | with_reducible exact D7 | with_reducible exact D7.alloc _) hb8; (first | have TZ := (three_alloc _ _ _ _).next hb8 | have TZ := TZ.next hb8); have hz8 := hb8.size; (try simp at hz8); obtain ⟨⟨z0, z1, z2⟩, z3, z4, z5⟩ := blk3 TZ; obtain ⟨⟨l0, l1, l2⟩, _⟩ := blk3 D8.a4.A; obtain ⟨⟨l3, l4, l5⟩, _⟩ := blk3 D8.a4.B))
      all_goals go_wp2_with fail
      all_goals go_meet
      all_goals
        have NQ := num_madeR D8.rq false nq (Nat.le_refl _) (by omega)
        have NQ' : Num w8 (n + 2) (.agg #[.int .i64 V, .bool NN, .slice S LL CC]) ((val x n / val y (m + 1) : Nat) : Int) := by
          rw [HM.out, sg_false, HQ.out] at NQ
          exact NQ.mono nq2
        first
        | exact ⟨_, V, NN, S, LL, CC, rfl, three_alloc _ _ _ _, NQ'.next (al _ _), by omega, D8.alloc _⟩
        | exact ⟨_, V, NN, S, LL, CC, rfl, TZ.set _ _ _, NQ'.set3 TZ _ _ _, by omega, D8.set3 (by omega) (by omega) (by omega) _ _ _⟩
    case rest =>
      obtain ⟨o, V, NN, S, LL, CC, rfl, TO, NO, ho, DO⟩ := hcut
      clear g0 g1 g2 g3 g4 g5
      have bigO := DO.a4.big
      have loO := TO.lt
      go_upto_region 12 with (go_at_call 64; refine (make_any false nr or cr rf _ (by omega) nrc DO.rr.cell DO.rr.hi DO.rr.lt).mono ?_; rintro e w9 ⟨he, hb9⟩; obtain ⟨V2, N2, S2, L2, C2, hM⟩ := madeZ_parts false or cr (trim rf nr) rf; have HM : Hid (_ = _) := hM; (have he2 := he.trans (congrArg Ending.returned hM)); clear he hM; subst he2)
      have D9 := DO.next hb9
      have NR := num_madeR (w := w9) ⟨D9.rr.cell, D9.rr.hi, D9.rr.lt⟩ false cr nrc (by omega)
      have NR9 : Num w9 (m + 3) (.agg #[.int .i64 V2, .bool N2, .slice S2 L2 C2]) ((val x n % val y (m + 1) : Nat) : Int) := by
        rw [HM.out, sg_false, HRR.out] at NR
        exact NR.mono nr3
      have z9 := hb9.size
      obtain ⟨W, hW⟩ : ∃ W, W = w9.alloc (.cells #[.int .i64 V2, .bool N2, .slice S2 L2 C2] 50) := ⟨_, rfl⟩
      obtain ⟨o2, ho2⟩ : ∃ o2, o2 = w9.heap.size := ⟨_, rfl⟩
      have hBW : Below w9.heap.size w9 W := by rw [hW]; exact al _ _
      have TW2 : Three W o2 (.int .i64 V2) (.bool N2) (.slice S2 L2 C2) := by rw [hW, ho2]; exact three_alloc _ _ _ _
      have TW : Three W o (.int .i64 V) (.bool NN) (.slice S LL CC) := (TO.next hb9).next hBW
      have NQW : Num W (n + 2) (.agg #[.int .i64 V, .bool NN, .slice S LL CC]) ((val x n / val y (m + 1) : Nat) : Int) := (NO.next hb9).next hBW
      have NRW := NR9.next hBW
      have DW := D9.next hBW
      rw [← hW, ← ho2]
      have o2b : o < o2 := by omega
      clear hW NR HM NR9 NO TO DO D9 D4 cw hb9 hBW R4
      have AW := DW.a4
      obtain ⟨⟨g0, g1, g2⟩, _⟩ := blk3 AW.A
      have bigW := AW.big
      have loW := TW2.lt
      have kk : w.heap.size + 4 ≤ o := by omega
      clear ho2 z9 ho
      go_wp2_with (go_at_call 65; refine (RA.ng _ AW.below).mono ?_; rintro e w11 ⟨rfl, hb11⟩)
      have A11 := AW.next hb11
      have T11 := TW.next hb11
      have T12 := TW2.next hb11
      have NQ11 := NQW.next hb11
      have NR11 := NRW.next hb11
      have bel := A11.below
      have Z11 : Three w11 (w.heap.size + 1 + 1) (.int .i64 0) (.bool false) (.slice none 0 0) := A11.Z
      have Y11 : Three w11 (w.heap.size + 1 + 1 + 1) (.int .i64 0) (.bool false) (.slice none 0 0) := A11.Y
      have big11 := A11.big
      clear g0 g1 g2 AW DW TW TW2 NQW NRW hb11 bigW loW bigO loO
      obtain ⟨⟨t0, t1, t2⟩, _⟩ := blk3 T11
      obtain ⟨⟨t3, t4, t5⟩, _⟩ := blk3 T12
      obtain ⟨⟨x0, x1, x2⟩, y0, y1, y2⟩ := blk3 Z11
      obtain ⟨⟨x3, x4, x5⟩, y3, y4, y5⟩ := blk3 Y11
      go_region_held3 (fun v => v.cell? ⟨o, 0, none⟩ = some (.int .i64 V) ∧ v.cell? ⟨o, 1, none⟩ = some (.bool NN) ∧ v.cell? ⟨o, 2, none⟩ = some (.slice S LL CC) ∧ v.cell? ⟨o2, 0, none⟩ = some (.int .i64 V2) ∧ v.cell? ⟨o2, 1, none⟩ = some (.bool N2) ∧ v.cell? ⟨o2, 2, none⟩ = some (.slice S2 L2 C2)) (first | with_reducible exact ⟨t0, t1, t2, t3, t4, t5⟩ | (with_reducible refine ⟨cell_set3d ?_ t0, cell_set3d ?_ t1, cell_set3d ?_ t2, cell_set3d ?_ t3, cell_set3d ?_ t4, cell_set3d ?_ t5⟩ <;> omega) | (with_reducible refine ⟨cell_set3d ?_ (cell_set3 ?_ t0), cell_set3d ?_ (cell_set3 ?_ t1), cell_set3d ?_ (cell_set3 ?_ t2), cell_set3d ?_ (cell_set3 ?_ t3), cell_set3d ?_ (cell_set3 ?_ t4), cell_set3d ?_ (cell_set3 ?_ t5)⟩ <;> omega) | (with_reducible refine ⟨cell_set3 ?_ t0, cell_set3 ?_ t1, cell_set3 ?_ t2, cell_set3 ?_ t3, cell_set3 ?_ t4, cell_set3 ?_ t5⟩ <;> omega) | (with_reducible refine ⟨cell_set3 ?_ (cell_set3 ?_ t0), cell_set3 ?_ (cell_set3 ?_ t1), cell_set3 ?_ (cell_set3 ?_ t2), cell_set3 ?_ (cell_set3 ?_ t3), cell_set3 ?_ (cell_set3 ?_ t4), cell_set3 ?_ (cell_set3 ?_ t5)⟩ <;> omega) | (go_keep; done)) (fail)
      all_goals go_wp2
      all_goals
        first | (exact bodyPost_ret (v := .tuple #[.agg #[.int .i64 V, .bool NN, .slice S LL CC], .agg #[.int .i64 V2, .bool N2, .slice S2 L2 C2]]) (by simp [results, Tryd.results66, go_sem, x0, x1, x2, x3, x4, x5]) rfl ⟨_, _, rfl, Num.drew ((NQ11.set3 Z11 (.int .i64 V) (.bool NN) (.slice S LL CC)).set3 (Y11.other (by omega) (.int .i64 V) (.bool NN) (.slice S LL CC)) (.int .i64 V2) (.bool N2) (.slice S2 L2 C2)), Num.drew ((NR11.set3 Z11 (.int .i64 V) (.bool NN) (.slice S LL CC)).set3 (Y11.other (by omega) (.int .i64 V) (.bool NN) (.slice S LL CC)) (.int .i64 V2) (.bool N2) (.slice S2 L2 C2)), Below.drew (below_set3 (below_set3 bel (by omega) (.int .i64 V) (.bool NN) (.slice S LL CC)) (by omega) (.int .i64 V2) (.bool N2) (.slice S2 L2 C2))⟩) | (exact bodyPost_ret (v := .tuple #[.agg #[.int .i64 V, .bool NN, .slice S LL CC], .agg #[.int .i64 V2, .bool N2, .slice S2 L2 C2]]) (by simp [results, Tryd.results66, go_sem, x0, x1, x2, x3, x4, x5]) rfl ⟨_, _, rfl, Num.drew ((NQ11.set3 Y11 (.int .i64 V2) (.bool N2) (.slice S2 L2 C2)).set3 (Z11.other (by omega) (.int .i64 V2) (.bool N2) (.slice S2 L2 C2)) (.int .i64 V) (.bool NN) (.slice S LL CC)), Num.drew ((NR11.set3 Y11 (.int .i64 V2) (.bool N2) (.slice S2 L2 C2)).set3 (Z11.other (by omega) (.int .i64 V2) (.bool N2) (.slice S2 L2 C2)) (.int .i64 V) (.bool NN) (.slice S LL CC)), Below.drew (below_set3 (below_set3 bel (by omega) (.int .i64 V2) (.bool N2) (.slice S2 L2 C2)) (by omega) (.int .i64 V) (.bool NN) (.slice S LL CC))⟩)


set_option maxRecDepth 100000 in
set_option maxHeartbeats 4000000 in
theorem rDiv_small (n m : Nat) (x y : Nat → Nat) (va vb : Int) (ga gb : Bool) (pa pb : Option Addr) (ta ca tb cb : Nat) (w : World)
    (RA : Rep w (.agg #[.int .i64 va, .bool ga, .slice pa ta ca]) true false n x) (RB : Rep w (.agg #[.int .i64 vb, .bool gb, .slice pb tb cb]) false false (m + 1) y) (hn : n ≤ 9000) (hm : m ≤ 9000) (top : y m ≠ 0) :
    Calls Tryd.prog 66 #[.agg #[.int .i64 va, .bool ga, .slice pa ta ca], .agg #[.int .i64 vb, .bool gb, .slice pb tb cb]] w fun r w' => ∃ vq vr, r = .returned (.tuple #[vq, vr]) ∧ Num w' (n + 2) vq ((val x n / val y (m + 1) : Nat) : Int) ∧ Num w' (m + 3) vr ((val x n % val y (m + 1) : Nat) : Int) ∧ Below w.heap.size w w' := by
  have hx := RA.lt
  have hy := RB.lt
  have HX : Hid (∀ i, x i < 1000000000) := hx
  have HY : Hid (∀ i, y i < 1000000000) := hy
  clear hx hy
  go_enter Tryd.func66, Tryd.ntmps66
  go_wp2_with (first | (go_at_call 61; (with_reducible show Calls Tryd.prog 61 #[Value.agg #[Value.int IntKind.i64 va, Value.bool ga, Value.slice pa ta ca]] _ _); refine (RA.sm _ A4.start.below).mono ?_; rintro e w1 ⟨rfl, hb1⟩; have R1 := A4.start.next hb1; obtain ⟨⟨u3, u4, u5⟩, _⟩ := blk3 R1.B) | (go_at_call 61; (with_reducible show Calls Tryd.prog 61 #[Value.agg #[Value.int IntKind.i64 vb, Value.bool gb, Value.slice pb tb cb]] _ _); refine (RB.sm _ R1.below).mono ?_; rintro e w1b ⟨rfl, hb1b⟩; have R1b := R1.next hb1b))
  obtain ⟨⟨g0, g1, g2⟩, _⟩ := blk3 R1b.A
  obtain ⟨⟨g3, g4, g5⟩, _⟩ := blk3 R1b.B
  go_cut [8, 9] (fun qv rv wx => ∃ oq nq qf or nr cr rf, qv = .slice (some ⟨oq, 0, none⟩) nq nq ∧ rv = .slice (some ⟨or, 0, none⟩) nr cr ∧ nq ≤ n + 2 ∧ nr ≤ cr ∧ nr ≤ m + 3 ∧ Raw wx oq nq qf ∧ Row wx or nr rf ∧ Hid (val qf nq = val x n / val y (m + 1)) ∧ Hid (val rf nr = val x n % val y (m + 1)) ∧ A4 w.heap.size w wx (.int .i64 va) (.bool ga) (.slice pa ta ca) (.int .i64 vb) (.bool gb) (.slice pb tb cb))
  case first =>
    go_region_held3 (fun v => v.cell? ⟨w.heap.size, 0, none⟩ = some (.int .i64 va) ∧ v.cell? ⟨w.heap.size, 1, none⟩ = some (.bool ga) ∧ v.cell? ⟨w.heap.size, 2, none⟩ = some (.slice pa ta ca) ∧ v.cell? ⟨w.heap.size + 1, 0, none⟩ = some (.int .i64 vb) ∧ v.cell? ⟨w.heap.size + 1, 1, none⟩ = some (.bool gb) ∧ v.cell? ⟨w.heap.size + 1, 2, none⟩ = some (.slice pb tb cb)) (first | with_reducible exact ⟨g0, g1, g2, g3, g4, g5⟩ | with_reducible exact ⟨s0, s1, s2, s3, s4, s5⟩ | with_reducible exact ⟨t0, t1, t2, t3, t4, t5⟩ | with_reducible exact ⟨l0, l1, l2, l3, l4, l5⟩ | (go_keep; done)) (first | (go_at_call 63; (with_reducible show Calls Tryd.prog 63 #[Value.agg #[Value.int IntKind.i64 va, Value.bool ga, Value.slice pa ta ca]] _ _); refine (RA.lm _ R1b.drew.below).mono ?_; rintro e w2 ⟨oa, ca', rfl, ha, la, hb2⟩; have R2 := R1b.drew.next hb2; obtain ⟨⟨s0, s1, s2⟩, _⟩ := blk3 R2.A; obtain ⟨⟨s3, s4, s5⟩, _⟩ := blk3 R2.B) | (go_at_call 63; (with_reducible show Calls Tryd.prog 63 #[Value.agg #[Value.int IntKind.i64 vb, Value.bool gb, Value.slice pb tb cb]] _ _); refine (RB.lm _ R2.below).mono ?_; rintro e w3 ⟨ob, cb', rfl, hb, lb, hb3⟩; have R3 := R2.next hb3; obtain ⟨⟨t0, t1, t2⟩, _⟩ := blk3 R3.A; obtain ⟨⟨t3, t4, t5⟩, _⟩ := blk3 R3.B) | (go_at_call 83; refine (divD n m oa ob ca' cb' x y w3 (by omega) (by omega) (fun i hi => (hb3.cell (p := ⟨oa, i, none⟩) la).trans (ha i hi)) hb (by have := hb3.size; omega) lb HX.out HY.out top).mono ?_; rintro e w4 ⟨oq, nq, qf, or, nr, cr, rf, rfl, nq2, nrc, nr3, RQ, RR, hvq, hvr, hb4⟩; have R4 := R3.next hb4; have HQ : Hid (val qf nq = val x n / val y (m + 1)) := hvq; have HRR : Hid (val rf nr = val x n % val y (m + 1)) := hvr; clear hvq hvr; obtain ⟨⟨l0, l1, l2⟩, _⟩ := blk3 R4.A; obtain ⟨⟨l3, l4, l5⟩, _⟩ := blk3 R4.B))
    all_goals go_wp2_with fail
    all_goals go_meet
    all_goals exact ⟨oq, nq, qf, or, nr, cr, rf, rfl, rfl, nq2, nrc, nr3, RQ, RR, HQ, HRR, R4⟩
  case rest =>
    obtain ⟨oq, nq, qf, or, nr, cr, rf, rfl, rfl, nq2, nrc, nr3, RQ, RR, HQ, HRR, R4⟩ := hcut
    clear g0 g1 g2 g3 g4 g5 R1 hb1
    obtain ⟨⟨g0, g1, g2⟩, _⟩ := blk3 R4.A
    obtain ⟨⟨g3, g4, g5⟩, _⟩ := blk3 R4.B
    have D4 : DC w.heap.size w wc (.int .i64 va) (.bool ga) (.slice pa ta ca) (.int .i64 vb) (.bool gb) (.slice pb tb cb) oq nq qf or nr rf := ⟨R4, RQ, RR⟩
    have big4 := R4.big
    have hiq := RQ.hi
    have hir := RR.hi
    clear RQ RR
    have cw : ∀ (v : World), Below wc.heap.size wc v → DC w.heap.size w v (.int .i64 va) (.bool ga) (.slice pa ta ca) (.int .i64 vb) (.bool gb) (.slice pb tb cb) oq nq qf or nr rf := fun v hb => D4.next hb
    go_upto_region 10 with fail
    go_cut [10] (fun pv wx => ∃ o V NN S LL CC, pv = .pointer (some ⟨o, 0, none⟩) ∧ Three wx o (.int .i64 V) (.bool NN) (.slice S LL CC) ∧ Num wx (n + 2) (.agg #[.int .i64 V, .bool NN, .slice S LL CC]) ((val x n / val y (m + 1) : Nat) : Int) ∧ wc.heap.size ≤ o ∧ DC w.heap.size w wx (.int .i64 va) (.bool ga) (.slice pa ta ca) (.int .i64 vb) (.bool gb) (.slice pb tb cb) oq nq qf or nr rf)
    case first =>
      have D4d := D4.drew
      have TZ := D4d.a4.A
      go_region_held3 (fun v => v.cell? ⟨w.heap.size, 0, none⟩ = some (.int .i64 va) ∧ v.cell? ⟨w.heap.size, 1, none⟩ = some (.bool ga) ∧ v.cell? ⟨w.heap.size, 2, none⟩ = some (.slice pa ta ca) ∧ v.cell? ⟨w.heap.size + 1, 0, none⟩ = some (.int .i64 vb) ∧ v.cell? ⟨w.heap.size + 1, 1, none⟩ = some (.bool gb) ∧ v.cell? ⟨w.heap.size + 1, 2, none⟩ = some (.slice pb tb cb)) (first | with_reducible exact ⟨g0, g1, g2, g3, g4, g5⟩ | with_reducible exact ⟨s0, s1, s2, s3, s4, s5⟩ | with_reducible exact ⟨t0, t1, t2, t3, t4, t5⟩ | with_reducible exact ⟨l0, l1, l2, l3, l4, l5⟩ | (with_reducible refine ⟨cell_set3 ?_ l0, cell_set3 ?_ l1, cell_set3 ?_ l2, cell_set3 ?_ l3, cell_set3 ?_ l4, cell_set3 ?_ l5⟩ <;> omega) | (go_keep; done)) (first | (go_at_call 65; (with_reducible show Calls Tryd.prog 65 #[Value.agg #[Value.int IntKind.i64 va, Value.bool ga, Value.slice pa ta ca]] _ _); refine (RA.ng _ (A4.below (DC.a4 (by first | with_reducible exact D4d | with_reducible exact (D4.alloc _).drew)))).mono ?_; rintro e w6 ⟨rfl, hb6⟩; have D6 := DC.next (by first | with_reducible exact D4d | with_reducible exact (D4.alloc _).drew) hb6; (first | have TZ := (three_allocd _ _ _ _).next hb6 | have TZ := TZ.next hb6); have hz6 := hb6.size; (try simp at hz6); obtain ⟨⟨s0, s1, s2⟩, _⟩ := blk3 D6.a4.A; obtain ⟨⟨s3, s4, s5⟩, _⟩ := blk3 D6.a4.B) | (go_at_call 65; (with_reducible show Calls Tryd.prog 65 #[Value.agg #[Value.int IntKind.i64 vb, Value.bool gb, Value.slice pb tb cb]] _ _); refine (RB.ng _ (A4.below (DC.a4 (by first | with_reducible exact D6 | with_reducible exact D6.alloc _)))).mono ?_; rintro e w7 ⟨rfl, hb7⟩; have D7 := DC.next (by first | with_reducible exact D6 | with_reducible exact D6.alloc _) hb7; (first | have TZ := (three_alloc _ _ _ _).next hb7 | have TZ := TZ.next hb7); have hz7 := hb7.size; (try simp at hz7); obtain ⟨⟨t0, t1, t2⟩, _⟩ := blk3 D7.a4.A; obtain ⟨⟨t3, t4, t5⟩, _⟩ := blk3 D7.a4.B) | (go_at_call 64; refine (make_any false nq oq nq qf _ (by omega) (Nat.le_refl _) (Raw.cell (DC.rq (by first | with_reducible exact D7 | with_reducible exact D7.alloc _))) (Raw.hi (DC.rq (by first | with_reducible exact D7 | with_reducible exact D7.alloc _))) D7.rq.lt).mono ?_; rintro e w8 ⟨he, hb8⟩; obtain ⟨V, NN, S, LL, CC, hM⟩ := madeZ_parts false oq nq (trim qf nq) qf; have HM : Hid (_ = _) := hM; (have he2 := he.trans (congrArg Ending.returned hM)); clear he hM; subst he2; have D8 := DC.next (by first | with_reducible exact D7 | with_reducible exact D7.alloc _) hb8; (first | have TZ := (three_alloc _ _ _ _).next hb8 | have TZ := TZ.next hb8); have hz8 := hb8.size; (try simp at hz8); obtain ⟨⟨z0, z1, z2⟩, z3, z4, z5⟩ := blk3 TZ; obtain ⟨⟨l0, l1, l2⟩, _⟩ := blk3 D8.a4.A; obtain ⟨⟨l3, l4, l5⟩, _⟩ := blk3 D8.a4.B))
      all_goals go_wp2_with fail
      all_goals go_meet
      all_goals
        have NQ := num_madeR D8.rq false nq (Nat.le_refl _) (by omega)
        have NQ' : Num w8 (n + 2) (.agg #[.int .i64 V, .bool NN, .slice S LL CC]) ((val x n / val y (m + 1) : Nat) : Int) := by
          rw [HM.out, sg_false, HQ.out] at NQ
          exact NQ.mono nq2
        first
        | exact ⟨_, V, NN, S, LL, CC, rfl, three_alloc _ _ _ _, NQ'.next (al _ _), by omega, D8.alloc _⟩
        | exact ⟨_, V, NN, S, LL, CC, rfl, TZ.set _ _ _, NQ'.set3 TZ _ _ _, by omega, D8.set3 (by omega) (by omega) (by omega) _ _ _⟩
    case rest =>
      obtain ⟨o, V, NN, S, LL, CC, rfl, TO, NO, ho, DO⟩ := hcut
      clear g0 g1 g2 g3 g4 g5
      have bigO := DO.a4.big
      have loO := TO.lt
      go_upto_region 12 with (go_at_call 64; refine (make_any false nr or cr rf _ (by omega) nrc DO.rr.cell DO.rr.hi DO.rr.lt).mono ?_; rintro e w9 ⟨he, hb9⟩; obtain ⟨V2, N2, S2, L2, C2, hM⟩ := madeZ_parts false or cr (trim rf nr) rf; have HM : Hid (_ = _) := hM; (have he2 := he.trans (congrArg Ending.returned hM)); clear he hM; subst he2)
      have D9 := DO.next hb9
      have NR := num_madeR (w := w9) ⟨D9.rr.cell, D9.rr.hi, D9.rr.lt⟩ false cr nrc (by omega)
      have NR9 : Num w9 (m + 3) (.agg #[.int .i64 V2, .bool N2, .slice S2 L2 C2]) ((val x n % val y (m + 1) : Nat) : Int) := by
        rw [HM.out, sg_false, HRR.out] at NR
        exact NR.mono nr3
      have z9 := hb9.size
      obtain ⟨W, hW⟩ : ∃ W, W = w9.alloc (.cells #[.int .i64 V2, .bool N2, .slice S2 L2 C2] 50) := ⟨_, rfl⟩
      obtain ⟨o2, ho2⟩ : ∃ o2, o2 = w9.heap.size := ⟨_, rfl⟩
      have hBW : Below w9.heap.size w9 W := by rw [hW]; exact al _ _
      have TW2 : Three W o2 (.int .i64 V2) (.bool N2) (.slice S2 L2 C2) := by rw [hW, ho2]; exact three_alloc _ _ _ _
      have TW : Three W o (.int .i64 V) (.bool NN) (.slice S LL CC) := (TO.next hb9).next hBW
      have NQW : Num W (n + 2) (.agg #[.int .i64 V, .bool NN, .slice S LL CC]) ((val x n / val y (m + 1) : Nat) : Int) := (NO.next hb9).next hBW
      have NRW := NR9.next hBW
      have DW := D9.next hBW
      rw [← hW, ← ho2]
      have o2b : o < o2 := by omega
      clear hW NR HM NR9 NO TO DO D9 D4 cw hb9 hBW R4
      have AW := DW.a4
      obtain ⟨⟨g0, g1, g2⟩, _⟩ := blk3 AW.A
      have bigW := AW.big
      have loW := TW2.lt
      have kk : w.heap.size + 4 ≤ o := by omega
      clear ho2 z9 ho
      go_wp2_with (go_at_call 65; refine (RA.ng _ AW.below).mono ?_; rintro e w11 ⟨rfl, hb11⟩)
      have A11 := AW.next hb11
      have T11 := TW.next hb11
      have T12 := TW2.next hb11
      have NQ11 := NQW.next hb11
      have NR11 := NRW.next hb11
      have bel := A11.below
      have Z11 : Three w11 (w.heap.size + 1 + 1) (.int .i64 0) (.bool false) (.slice none 0 0) := A11.Z
      have Y11 : Three w11 (w.heap.size + 1 + 1 + 1) (.int .i64 0) (.bool false) (.slice none 0 0) := A11.Y
      have big11 := A11.big
      clear g0 g1 g2 AW DW TW TW2 NQW NRW hb11 bigW loW bigO loO
      obtain ⟨⟨t0, t1, t2⟩, _⟩ := blk3 T11
      obtain ⟨⟨t3, t4, t5⟩, _⟩ := blk3 T12
      obtain ⟨⟨x0, x1, x2⟩, y0, y1, y2⟩ := blk3 Z11
      obtain ⟨⟨x3, x4, x5⟩, y3, y4, y5⟩ := blk3 Y11
      go_region_held3 (fun v => v.cell? ⟨o, 0, none⟩ = some (.int .i64 V) ∧ v.cell? ⟨o, 1, none⟩ = some (.bool NN) ∧ v.cell? ⟨o, 2, none⟩ = some (.slice S LL CC) ∧ v.cell? ⟨o2, 0, none⟩ = some (.int .i64 V2) ∧ v.cell? ⟨o2, 1, none⟩ = some (.bool N2) ∧ v.cell? ⟨o2, 2, none⟩ = some (.slice S2 L2 C2)) (first | with_reducible exact ⟨t0, t1, t2, t3, t4, t5⟩ | (with_reducible refine ⟨cell_set3d ?_ t0, cell_set3d ?_ t1, cell_set3d ?_ t2, cell_set3d ?_ t3, cell_set3d ?_ t4, cell_set3d ?_ t5⟩ <;> omega) | (with_reducible refine ⟨cell_set3d ?_ (cell_set3 ?_ t0), cell_set3d ?_ (cell_set3 ?_ t1), cell_set3d ?_ (cell_set3 ?_ t2), cell_set3d ?_ (cell_set3 ?_ t3), cell_set3d ?_ (cell_set3 ?_ t4), cell_set3d ?_ (cell_set3 ?_ t5)⟩ <;> omega) | (with_reducible refine ⟨cell_set3 ?_ t0, cell_set3 ?_ t1, cell_set3 ?_ t2, cell_set3 ?_ t3, cell_set3 ?_ t4, cell_set3 ?_ t5⟩ <;> omega) | (with_reducible refine ⟨cell_set3 ?_ (cell_set3 ?_ t0), cell_set3 ?_ (cell_set3 ?_ t1), cell_set3 ?_ (cell_set3 ?_ t2), cell_set3 ?_ (cell_set3 ?_ t3), cell_set3 ?_ (cell_set3 ?_ t4), cell_set3 ?_ (cell_set3 ?_ t5)⟩ <;> omega) | (go_keep; done)) (fail)
      all_goals go_wp2
      all_goals
        first | (exact bodyPost_ret (v := .tuple #[.agg #[.int .i64 V, .bool NN, .slice S LL CC], .agg #[.int .i64 V2, .bool N2, .slice S2 L2 C2]]) (by simp [results, Tryd.results66, go_sem, x0, x1, x2, x3, x4, x5]) rfl ⟨_, _, rfl, Num.drew ((NQ11.set3 Z11 (.int .i64 V) (.bool NN) (.slice S LL CC)).set3 (Y11.other (by omega) (.int .i64 V) (.bool NN) (.slice S LL CC)) (.int .i64 V2) (.bool N2) (.slice S2 L2 C2)), Num.drew ((NR11.set3 Z11 (.int .i64 V) (.bool NN) (.slice S LL CC)).set3 (Y11.other (by omega) (.int .i64 V) (.bool NN) (.slice S LL CC)) (.int .i64 V2) (.bool N2) (.slice S2 L2 C2)), Below.drew (below_set3 (below_set3 bel (by omega) (.int .i64 V) (.bool NN) (.slice S LL CC)) (by omega) (.int .i64 V2) (.bool N2) (.slice S2 L2 C2))⟩) | (exact bodyPost_ret (v := .tuple #[.agg #[.int .i64 V, .bool NN, .slice S LL CC], .agg #[.int .i64 V2, .bool N2, .slice S2 L2 C2]]) (by simp [results, Tryd.results66, go_sem, x0, x1, x2, x3, x4, x5]) rfl ⟨_, _, rfl, Num.drew ((NQ11.set3 Y11 (.int .i64 V2) (.bool N2) (.slice S2 L2 C2)).set3 (Z11.other (by omega) (.int .i64 V2) (.bool N2) (.slice S2 L2 C2)) (.int .i64 V) (.bool NN) (.slice S LL CC)), Num.drew ((NR11.set3 Y11 (.int .i64 V2) (.bool N2) (.slice S2 L2 C2)).set3 (Z11.other (by omega) (.int .i64 V2) (.bool N2) (.slice S2 L2 C2)) (.int .i64 V) (.bool NN) (.slice S LL CC)), Below.drew (below_set3 (below_set3 bel (by omega) (.int .i64 V2) (.bool N2) (.slice S2 L2 C2)) (by omega) (.int .i64 V) (.bool NN) (.slice S LL CC))⟩)


end Go.Proofs.YtoloenkcfpfgcaaDoor
