/- The model's RootWord where a number is told. -/
import Derived.Test.YtamoakodlmjbiaaDoorRootT
namespace Go.Proofs.YtamoakodlmjbiaaDoor.fnExactRootWord
open Go.ChangeShapes Go.WideShapes Go.ChangeAt Go.RowKit
set_option linter.unusedVariables false
section
variable (a mode : Int) (TA : Tests a 1 false)
include TA in
set_option maxRecDepth 100000 in
set_option maxHeartbeats 1500000 in
theorem s_num0q (w : World) (S M r : Nat) (p F R : Int) (S1 : S < 16777216) (S0 : 0 < S) (p0 : -149 ≤ p) (p1 : p ≤ 105) (hp2 : Int.tmod p 2 = 0) (hF : Int.tdiv p 2 - 41 = F) (f0 : -200 ≤ F) (f1 : F ≤ 200) (hM : (S : Int) * 2 ^ 80 = (M : Int)) (M0 : 0 < M) (M1 : M < 100000000000000000000000000000000) (hr : IsRoot M r) (hsq : r * r = M) (pA : Hid (∀ v : World, Calls Tryd.prog 50 #[.int .u32 a] v fun e' w' => e' = .returned (.tuple #[.int .i64 S, .int .i64 p]) ∧ w' = v)) (r0 : 0 ≤ R) (r1 : R < 4294967296)
    (HT : Hid (∀ (v : World) (K L : Nat) (VP VQ : Int) (gP gQ : Bool) (pP pQ : Option Addr) (lP cP lQ cQ : Nat), Num v K (.agg #[.int .i64 VP, .bool gP, .slice pP lP cP]) (((2 * r) : Nat) : Int) → Num v L (.agg #[.int .i64 VQ, .bool gQ, .slice pQ lQ cQ]) 1 → 2 ≤ K → K ≤ 9000 → Calls Tryd.prog 40 #[.agg #[.int .i64 VP, .bool gP, .slice pP lP cP, .int .i64 VQ, .bool gQ, .slice pQ lQ cQ, .int .i64 F], .agg #[.int .i64 24, .int .i64 (-149), .int .i64 104], .int .i64 mode] v fun e w' => e = .returned (.int .i64 R) ∧ Below v.heap.size v w')) :
    Calls Tryd.prog 65 #[.int .u32 a, .int .i64 mode] w fun e w' => e = .returned (.int .u32 R) ∧ Below w.heap.size w w' := by
  have nA : Hid (∀ v : World, Calls Tryd.prog 67 #[.int .u32 a] v fun e w' => e = .returned (.bool false) ∧ w' = v) := TA.neg
  have qA : Hid (∀ v : World, Calls Tryd.prog 47 #[.int .u32 a] v fun e w' => e = .returned (.bool (decide ((1 : Int) = 3))) ∧ w' = v) := TA.nan
  have iA : Hid (∀ v : World, Calls Tryd.prog 48 #[.int .u32 a] v fun e w' => e = .returned (.bool (decide ((1 : Int) = 2))) ∧ w' = v) := TA.inf
  have zA : Hid (∀ v : World, Calls Tryd.prog 49 #[.int .u32 a] v fun e w' => e = .returned (.bool (decide ((1 : Int) = 0))) ∧ w' = v) := TA.nil
  clear TA
  simp only [Int.reduceEq, decide_false] at qA iA zA
  have hwR : IntKind.u32.wrap R = R := by rw [IntKind.wrap_u32]; exact Int.emod_eq_of_lt r0 r1
  obtain ⟨D, hD⟩ : ∃ D, Int.tdiv p 2 = D := ⟨_, rfl⟩
  have hDF : D - 41 = F := by omega
  have D0 : -159 ≤ D := by omega
  have D1 : D ≤ 241 := by omega
  subst hDF
  have ew1 : Hid (IntKind.i64.wrap D = D) := wr64 D (by omega) (by omega)
  have ew2 : Hid (IntKind.i64.wrap (D - 41) = D - 41) := wr64 (D - 41) (by omega) (by omega)
  have m18 : -1000000000000000000 < (S : Int) ∧ (S : Int) < 1000000000000000000 := by omega
  have HM : Hid ((S : Int) * 2 ^ 80 = (M : Int)) := hM
  have HR : Hid (IsRoot M r ∧ r * r = M) := ⟨hr, hsq⟩
  obtain ⟨z, hz⟩ : ∃ z, cmpZ ((r : Int) * (r : Int)) (M : Int) = z := ⟨_, rfl⟩
  have z0 : z = 0 := by
    rw [← hz]
    have e : ((r * r : Nat) : Int) = (r : Int) * (r : Int) := by simp
    unfold cmpZ
    (repeat' split) <;> omega
  subst z0
  have tp : Hid ((M : Int).natAbs < 1000000000 ^ 4) := by show _ < _; rw [Int.natAbs_natCast]; omega
  clear hM hr hsq hF
  go_enter Tryd.func65, Tryd.ntmps65
  go_wp2_with (first | (go_at_call 67; refine ((Hid.out nA) _).mono ?_; rintro e w' ⟨rfl, hw⟩; subst w') | (go_at_call 47; refine ((Hid.out qA) _).mono ?_; rintro e w' ⟨rfl, hw⟩; subst w') | (go_at_call 48; refine ((Hid.out iA) _).mono ?_; rintro e w' ⟨rfl, hw⟩; subst w') | (go_at_call 49; refine ((Hid.out zA) _).mono ?_; rintro e w' ⟨rfl, hw⟩; subst w') | (go_at_call 50; refine ((Hid.out pA) _).mono ?_; rintro e w' ⟨rfl, hw⟩; subst w') | (go_at_call 78; refine (zSmall (S : Int) m18.1 m18.2 w).mono ?_; rintro e w1 ⟨rfl, hb1⟩) | (go_at_call 89; refine (num_power 80 (by decide) w1).mono ?_; rintro e w2 ⟨v2, rfl, N2, hb2⟩; obtain ⟨V2, g2, p2, l2, c2, rfl⟩ := N2.parts) | (go_at_call 88; refine (num_mul_any (w := w2) (num_small w2 3 (S : Int) m18.1 m18.2) N2 (by decide) (by decide) (by decide)).mono ?_; rintro e w3 ⟨v3, rfl, N3a, hb3⟩; obtain ⟨Vn, gn, pn, ln, cn, rfl⟩ := N3a.parts; (have N3 := N3a); rw [HM.out] at N3; (have NM := N3.tight (k := 4) tp.out); (have b3 := (hb1.trans (hb2.mono hb1.size)).trans (hb3.mono (Nat.le_trans hb1.size hb2.size))); (have aN : Below w3.heap.size w3 (w3.alloc (.cells #[.int .i64 Vn, .bool gn, .slice pn ln cn] 57)) := ((Below.refl _ _).alloc (Nat.le_refl _) _)); (have TN : Three (w3.alloc (.cells #[.int .i64 Vn, .bool gn, .slice pn ln cn] 57)) w3.heap.size (.int .i64 Vn) (.bool gn) (.slice pn ln cn) := heap_alloc_new _ _); (have NMn := NM.next aN); (have bN := b3.trans (aN.mono b3.size)); obtain ⟨⟨n0, n1, n2⟩, _⟩ := blk3 TN) | (go_at_call 90; refine (num_root (w := (w3.alloc (.cells #[.int .i64 Vn, .bool gn, .slice pn ln cn] 57))) NMn (by decide) (by decide) M0 M1).mono ?_; rintro e w4 ⟨v4, r', rfl, hr', N4, hb4⟩; obtain ⟨Vr, gr, pr, lr, cr, rfl⟩ := N4.parts; obtain rfl : r = r' := (hr'.unique HR.out.1).symm; (have TN4 := TN.next hb4); (have NM4 := NMn.next hb4); (have b4 := bN.trans (hb4.mono bN.size)); (have aR : Below w4.heap.size w4 (w4.alloc (.cells #[.int .i64 Vr, .bool gr, .slice pr lr cr] 57)) := ((Below.refl _ _).alloc (Nat.le_refl _) _)); (have TR : Three (w4.alloc (.cells #[.int .i64 Vr, .bool gr, .slice pr lr cr] 57)) w4.heap.size (.int .i64 Vr) (.bool gr) (.slice pr lr cr) := heap_alloc_new _ _); (have TNr := TN4.next aR); (have NMr := NM4.next aR); (have NR := N4.next aR); (have bR := b4.trans (aR.mono b4.size)); obtain ⟨⟨r0', r1', r2'⟩, _⟩ := blk3 TR; clear hr') | (go_at_call 91; (with_reducible show Calls Tryd.prog 91 _ (w4.alloc (.cells #[.int .i64 Vr, .bool gr, .slice pr lr cr] 57)) _); refine (num_add (w := (w4.alloc (.cells #[.int .i64 Vr, .bool gr, .slice pr lr cr] 57))) NR NR (by decide) (by decide) (by decide)).mono ?_; rintro e w5 ⟨v5, rfl, N5, hb5⟩; obtain ⟨Vq, gq, pq, lq, cq, rfl⟩ := N5.parts; (have TN5 := TNr.next hb5); (have TR5 := TR.next hb5); (have NM5 := NMr.next hb5); (have NR5 := NR.next hb5); (have b5 := bR.trans (hb5.mono bR.size)); (have aP : Below w5.heap.size w5 (w5.alloc (.cells #[.int .i64 Vq, .bool gq, .slice pq lq cq] 57)) := ((Below.refl _ _).alloc (Nat.le_refl _) _)); (have TP : Three (w5.alloc (.cells #[.int .i64 Vq, .bool gq, .slice pq lq cq] 57)) w5.heap.size (.int .i64 Vq) (.bool gq) (.slice pq lq cq) := heap_alloc_new _ _); (have TNp := TN5.next aP); (have TRp := TR5.next aP); (have NMp := NM5.next aP); (have NRp := NR5.next aP); (have NPp := N5.next aP); (have bP := b5.trans (aP.mono b5.size)); obtain ⟨⟨x0, x1, x2⟩, _⟩ := blk3 TRp; obtain ⟨⟨x3, x4, x5⟩, _⟩ := blk3 TNp))
  obtain ⟨W, hW⟩ : ∃ W, W = (w5.alloc (.cells #[.int .i64 Vq, .bool gq, .slice pq lq cq] 57)) := ⟨_, rfl⟩
  obtain ⟨bn, hbn⟩ : ∃ b, b = w3.heap.size := ⟨_, rfl⟩
  obtain ⟨br, hbr⟩ : ∃ b, b = w4.heap.size := ⟨_, rfl⟩
  obtain ⟨bq, hbq⟩ : ∃ b, b = w5.heap.size := ⟨_, rfl⟩
  rw [← hW] at TNp TRp NMp NRp NPp bP x0 x1 x2 x3 x4 x5 TP ⊢
  rw [← hbn] at TNp x3 x4 x5
  rw [← hbr] at TRp x0 x1 x2
  rw [← hbq] at TP
  rw [← hbn, ← hbr, ← hbq]
  have nrq : br ≠ bq := by rw [hbr, hbq]; have := TR5.lt; omega
  have nnq : bn ≠ bq := by rw [hbn, hbq]; have := TN5.lt; omega
  have kbq : w.heap.size ≤ bq := by rw [hbq]; exact b5.size
  clear TN TR TN4 TNr TN5 TR5 NMn NM4 NMr NM5 NR NR5 N5 N4 N3 N3a NM N2 n0 n1 n2 r0' r1' r2' hW hbn hbr hbq b3 bN b4 bR b5 hb1 hb2 hb3 hb4 hb5 aN aR aP
  go_region_held3 (fun v => v.cell? ⟨br, 0, none⟩ = some (.int .i64 Vr) ∧ v.cell? ⟨br, 1, none⟩ = some (.bool gr) ∧ v.cell? ⟨br, 2, none⟩ = some (.slice pr lr cr) ∧ v.cell? ⟨bn, 0, none⟩ = some (.int .i64 Vn) ∧ v.cell? ⟨bn, 1, none⟩ = some (.bool gn) ∧ v.cell? ⟨bn, 2, none⟩ = some (.slice pn ln cn)) (first | with_reducible exact ⟨x0, x1, x2, x3, x4, x5⟩ | with_reducible exact ⟨s0, s1, s2, s3, s4, s5⟩ | with_reducible exact ⟨t0, t1, t2, t3, t4, t5⟩ | (go_keep; done)) (first | (go_at_call 88; refine (num_mul_any (w := W.drew) NRp.drew NRp.drew (by decide) (by decide) (by decide)).mono ?_; rintro e w6 ⟨v6, rfl, N6, hc6⟩; obtain ⟨V6, g6, p6, l6, c6, rfl⟩ := N6.parts; (have hb6 : Below W.heap.size W w6 := ⟨hc6.os, hc6.tape, hc6.output, hc6.size, hc6.block⟩); (have TR6 := TRp.next hb6); (have TN6 := TNp.next hb6); (have TQ6 := TP.next hb6); (have NM6 := NMp.next hb6); (have NP6 := NPp.next hb6); (have b6 := bP.trans (hb6.mono bP.size)); obtain ⟨⟨s0, s1, s2⟩, _⟩ := blk3 TR6; obtain ⟨⟨s3, s4, s5⟩, _⟩ := blk3 TN6) | (go_at_call 92; refine (num_cmp (w := w6) N6 NM6 (by decide) (by decide) (by have := Int.mul_nonneg (Int.natCast_nonneg r) (Int.natCast_nonneg r); exact this) (by omega)).mono ?_; rw [hz]; rintro e w7 ⟨rfl, hb7⟩; (have TR7 := TR6.next hb7); (have TN7 := TN6.next hb7); (have TQ7 := TQ6.next hb7); (have NP7 := NP6.next hb7); (have b7 := b6.trans (hb7.mono b6.size)); obtain ⟨⟨t0, t1, t2⟩, _⟩ := blk3 TR7; obtain ⟨⟨t3, t4, t5⟩, _⟩ := blk3 TN7))
  clear x0 x1 x2 x3 x4 x5 s0 s1 s2 s3 s4 s5 t0 t1 t2 t3 t4 t5 TP TRp TNp NMp NRp NPp NM6 N6 NP6 TR6 TN6 TQ6 hb6 hb7 hc6 b6 bP TR7 TN7
  obtain ⟨⟨y0, y1, y2⟩, f0', f1', f2'⟩ := blk3 TQ7
  go_wp2
  · have TE : Three w7 bq (.int .i64 Vq) (.bool gq) (.slice pq lq cq) := TQ7
    have NE : Num w7 7 (.agg #[.int .i64 Vq, .bool gq, .slice pq lq cq]) (((2 * r) : Nat) : Int) := by have h := NP7; rw [show (r : Int) + (r : Int) = (((2 * r) : Nat) : Int) by omega] at h; exact h
    have bE := b7
    obtain ⟨⟨u0, u1, u2⟩, _⟩ := blk3 TE
    go_region_held3 (fun v => v.cell? ⟨bq, 0, none⟩ = some (.int .i64 Vq) ∧ v.cell? ⟨bq, 1, none⟩ = some (.bool gq) ∧ v.cell? ⟨bq, 2, none⟩ = some (.slice pq lq cq)) (first | with_reducible exact ⟨u0, u1, u2⟩ | with_reducible exact ⟨m0, m1, m2⟩ | with_reducible exact ⟨k0, k1, k2⟩ | with_reducible exact ⟨j0, j1, j2⟩ | (go_keep; done)) (first | (go_at_call 78; refine (zSmall 1 (by decide) (by decide) _).mono ?_; rintro e w10 ⟨rfl, hc10⟩; (have hb10 : Below w7.heap.size w7 w10 := ⟨hc10.os, hc10.tape, hc10.output, hc10.size, hc10.block⟩); (have T10 := TE.next hb10); (have N10 := NE.next hb10); (have b10 := bE.trans (hb10.mono bE.size)); obtain ⟨⟨m0, m1, m2⟩, _⟩ := blk3 T10) | (go_at_call 42; refine (zWord _).mono ?_; rintro e w11 ⟨rfl, hb11⟩; (have T11 := T10.next hb11); (have N11 := N10.next hb11); (have b11 := b10.trans (hb11.mono b10.size)); obtain ⟨⟨k0, k1, k2⟩, _⟩ := blk3 T11) | (go_at_call 40; (try rw [ew1.out]); (try rw [ew2.out]); (with_reducible show Calls Tryd.prog 40 #[Value.agg #[Value.int IntKind.i64 Vq, Value.bool gq, Value.slice pq lq cq, Value.int IntKind.i64 1, Value.bool false, Value.slice none 0 0, Value.int IntKind.i64 (D - 41)], _, _] w11 _); refine ((Hid.out HT) w11 7 3 Vq 1 gq false pq none lq cq 0 0 N11 (num_small w11 3 1 (by decide) (by decide)) (by decide) (by decide)).mono ?_; rintro e w12 ⟨rfl, hb12⟩; (have T12 := T11.next hb12); (have b12 := b11.trans (hb12.mono b11.size)); obtain ⟨⟨j0, j1, j2⟩, _⟩ := blk3 T12))
    all_goals go_wp2
    all_goals go_ret
    all_goals exact ⟨by first | rfl | (show Ending.returned (.int .u32 (IntKind.u32.wrap R)) = _; rw [hwR]), b12⟩
include TA in
set_option maxRecDepth 100000 in
set_option maxHeartbeats 1500000 in
theorem s_num0n (w : World) (S M r : Nat) (p F R : Int) (S1 : S < 16777216) (S0 : 0 < S) (p0 : -149 ≤ p) (p1 : p ≤ 105) (hp2 : Int.tmod p 2 = 0) (hF : Int.tdiv p 2 - 41 = F) (f0 : -200 ≤ F) (f1 : F ≤ 200) (hM : (S : Int) * 2 ^ 80 = (M : Int)) (M0 : 0 < M) (M1 : M < 100000000000000000000000000000000) (hr : IsRoot M r) (hsq : ¬ r * r = M) (pA : Hid (∀ v : World, Calls Tryd.prog 50 #[.int .u32 a] v fun e' w' => e' = .returned (.tuple #[.int .i64 S, .int .i64 p]) ∧ w' = v)) (r0 : 0 ≤ R) (r1 : R < 4294967296)
    (HT : Hid (∀ (v : World) (K L : Nat) (VP VQ : Int) (gP gQ : Bool) (pP pQ : Option Addr) (lP cP lQ cQ : Nat), Num v K (.agg #[.int .i64 VP, .bool gP, .slice pP lP cP]) (((2 * r + 1) : Nat) : Int) → Num v L (.agg #[.int .i64 VQ, .bool gQ, .slice pQ lQ cQ]) 1 → 2 ≤ K → K ≤ 9000 → Calls Tryd.prog 40 #[.agg #[.int .i64 VP, .bool gP, .slice pP lP cP, .int .i64 VQ, .bool gQ, .slice pQ lQ cQ, .int .i64 F], .agg #[.int .i64 24, .int .i64 (-149), .int .i64 104], .int .i64 mode] v fun e w' => e = .returned (.int .i64 R) ∧ Below v.heap.size v w')) :
    Calls Tryd.prog 65 #[.int .u32 a, .int .i64 mode] w fun e w' => e = .returned (.int .u32 R) ∧ Below w.heap.size w w' := by
  have nA : Hid (∀ v : World, Calls Tryd.prog 67 #[.int .u32 a] v fun e w' => e = .returned (.bool false) ∧ w' = v) := TA.neg
  have qA : Hid (∀ v : World, Calls Tryd.prog 47 #[.int .u32 a] v fun e w' => e = .returned (.bool (decide ((1 : Int) = 3))) ∧ w' = v) := TA.nan
  have iA : Hid (∀ v : World, Calls Tryd.prog 48 #[.int .u32 a] v fun e w' => e = .returned (.bool (decide ((1 : Int) = 2))) ∧ w' = v) := TA.inf
  have zA : Hid (∀ v : World, Calls Tryd.prog 49 #[.int .u32 a] v fun e w' => e = .returned (.bool (decide ((1 : Int) = 0))) ∧ w' = v) := TA.nil
  clear TA
  simp only [Int.reduceEq, decide_false] at qA iA zA
  have hwR : IntKind.u32.wrap R = R := by rw [IntKind.wrap_u32]; exact Int.emod_eq_of_lt r0 r1
  obtain ⟨D, hD⟩ : ∃ D, Int.tdiv p 2 = D := ⟨_, rfl⟩
  have hDF : D - 41 = F := by omega
  have D0 : -159 ≤ D := by omega
  have D1 : D ≤ 241 := by omega
  subst hDF
  have ew1 : Hid (IntKind.i64.wrap D = D) := wr64 D (by omega) (by omega)
  have ew2 : Hid (IntKind.i64.wrap (D - 41) = D - 41) := wr64 (D - 41) (by omega) (by omega)
  have m18 : -1000000000000000000 < (S : Int) ∧ (S : Int) < 1000000000000000000 := by omega
  have HM : Hid ((S : Int) * 2 ^ 80 = (M : Int)) := hM
  have HR : Hid (IsRoot M r ∧ ¬ r * r = M) := ⟨hr, hsq⟩
  obtain ⟨z, hz⟩ : ∃ z, cmpZ ((r : Int) * (r : Int)) (M : Int) = z := ⟨_, rfl⟩
  have z0 : ¬ z = 0 := by
    rw [← hz]
    have e : ((r * r : Nat) : Int) = (r : Int) * (r : Int) := by simp
    unfold cmpZ
    (repeat' split) <;> omega
  have z0' : (z == 0) = false := by simpa using z0
  have tp : Hid ((M : Int).natAbs < 1000000000 ^ 4) := by show _ < _; rw [Int.natAbs_natCast]; omega
  clear hM hr hsq hF
  go_enter Tryd.func65, Tryd.ntmps65
  go_wp2_with (first | (go_at_call 67; refine ((Hid.out nA) _).mono ?_; rintro e w' ⟨rfl, hw⟩; subst w') | (go_at_call 47; refine ((Hid.out qA) _).mono ?_; rintro e w' ⟨rfl, hw⟩; subst w') | (go_at_call 48; refine ((Hid.out iA) _).mono ?_; rintro e w' ⟨rfl, hw⟩; subst w') | (go_at_call 49; refine ((Hid.out zA) _).mono ?_; rintro e w' ⟨rfl, hw⟩; subst w') | (go_at_call 50; refine ((Hid.out pA) _).mono ?_; rintro e w' ⟨rfl, hw⟩; subst w') | (go_at_call 78; refine (zSmall (S : Int) m18.1 m18.2 w).mono ?_; rintro e w1 ⟨rfl, hb1⟩) | (go_at_call 89; refine (num_power 80 (by decide) w1).mono ?_; rintro e w2 ⟨v2, rfl, N2, hb2⟩; obtain ⟨V2, g2, p2, l2, c2, rfl⟩ := N2.parts) | (go_at_call 88; refine (num_mul_any (w := w2) (num_small w2 3 (S : Int) m18.1 m18.2) N2 (by decide) (by decide) (by decide)).mono ?_; rintro e w3 ⟨v3, rfl, N3a, hb3⟩; obtain ⟨Vn, gn, pn, ln, cn, rfl⟩ := N3a.parts; (have N3 := N3a); rw [HM.out] at N3; (have NM := N3.tight (k := 4) tp.out); (have b3 := (hb1.trans (hb2.mono hb1.size)).trans (hb3.mono (Nat.le_trans hb1.size hb2.size))); (have aN : Below w3.heap.size w3 (w3.alloc (.cells #[.int .i64 Vn, .bool gn, .slice pn ln cn] 57)) := ((Below.refl _ _).alloc (Nat.le_refl _) _)); (have TN : Three (w3.alloc (.cells #[.int .i64 Vn, .bool gn, .slice pn ln cn] 57)) w3.heap.size (.int .i64 Vn) (.bool gn) (.slice pn ln cn) := heap_alloc_new _ _); (have NMn := NM.next aN); (have bN := b3.trans (aN.mono b3.size)); obtain ⟨⟨n0, n1, n2⟩, _⟩ := blk3 TN) | (go_at_call 90; refine (num_root (w := (w3.alloc (.cells #[.int .i64 Vn, .bool gn, .slice pn ln cn] 57))) NMn (by decide) (by decide) M0 M1).mono ?_; rintro e w4 ⟨v4, r', rfl, hr', N4, hb4⟩; obtain ⟨Vr, gr, pr, lr, cr, rfl⟩ := N4.parts; obtain rfl : r = r' := (hr'.unique HR.out.1).symm; (have TN4 := TN.next hb4); (have NM4 := NMn.next hb4); (have b4 := bN.trans (hb4.mono bN.size)); (have aR : Below w4.heap.size w4 (w4.alloc (.cells #[.int .i64 Vr, .bool gr, .slice pr lr cr] 57)) := ((Below.refl _ _).alloc (Nat.le_refl _) _)); (have TR : Three (w4.alloc (.cells #[.int .i64 Vr, .bool gr, .slice pr lr cr] 57)) w4.heap.size (.int .i64 Vr) (.bool gr) (.slice pr lr cr) := heap_alloc_new _ _); (have TNr := TN4.next aR); (have NMr := NM4.next aR); (have NR := N4.next aR); (have bR := b4.trans (aR.mono b4.size)); obtain ⟨⟨r0', r1', r2'⟩, _⟩ := blk3 TR; clear hr') | (go_at_call 91; (with_reducible show Calls Tryd.prog 91 _ (w4.alloc (.cells #[.int .i64 Vr, .bool gr, .slice pr lr cr] 57)) _); refine (num_add (w := (w4.alloc (.cells #[.int .i64 Vr, .bool gr, .slice pr lr cr] 57))) NR NR (by decide) (by decide) (by decide)).mono ?_; rintro e w5 ⟨v5, rfl, N5, hb5⟩; obtain ⟨Vq, gq, pq, lq, cq, rfl⟩ := N5.parts; (have TN5 := TNr.next hb5); (have TR5 := TR.next hb5); (have NM5 := NMr.next hb5); (have NR5 := NR.next hb5); (have b5 := bR.trans (hb5.mono bR.size)); (have aP : Below w5.heap.size w5 (w5.alloc (.cells #[.int .i64 Vq, .bool gq, .slice pq lq cq] 57)) := ((Below.refl _ _).alloc (Nat.le_refl _) _)); (have TP : Three (w5.alloc (.cells #[.int .i64 Vq, .bool gq, .slice pq lq cq] 57)) w5.heap.size (.int .i64 Vq) (.bool gq) (.slice pq lq cq) := heap_alloc_new _ _); (have TNp := TN5.next aP); (have TRp := TR5.next aP); (have NMp := NM5.next aP); (have NRp := NR5.next aP); (have NPp := N5.next aP); (have bP := b5.trans (aP.mono b5.size)); obtain ⟨⟨x0, x1, x2⟩, _⟩ := blk3 TRp; obtain ⟨⟨x3, x4, x5⟩, _⟩ := blk3 TNp))
  obtain ⟨W, hW⟩ : ∃ W, W = (w5.alloc (.cells #[.int .i64 Vq, .bool gq, .slice pq lq cq] 57)) := ⟨_, rfl⟩
  obtain ⟨bn, hbn⟩ : ∃ b, b = w3.heap.size := ⟨_, rfl⟩
  obtain ⟨br, hbr⟩ : ∃ b, b = w4.heap.size := ⟨_, rfl⟩
  obtain ⟨bq, hbq⟩ : ∃ b, b = w5.heap.size := ⟨_, rfl⟩
  rw [← hW] at TNp TRp NMp NRp NPp bP x0 x1 x2 x3 x4 x5 TP ⊢
  rw [← hbn] at TNp x3 x4 x5
  rw [← hbr] at TRp x0 x1 x2
  rw [← hbq] at TP
  rw [← hbn, ← hbr, ← hbq]
  have nrq : br ≠ bq := by rw [hbr, hbq]; have := TR5.lt; omega
  have nnq : bn ≠ bq := by rw [hbn, hbq]; have := TN5.lt; omega
  have kbq : w.heap.size ≤ bq := by rw [hbq]; exact b5.size
  clear TN TR TN4 TNr TN5 TR5 NMn NM4 NMr NM5 NR NR5 N5 N4 N3 N3a NM N2 n0 n1 n2 r0' r1' r2' hW hbn hbr hbq b3 bN b4 bR b5 hb1 hb2 hb3 hb4 hb5 aN aR aP
  go_region_held3 (fun v => v.cell? ⟨br, 0, none⟩ = some (.int .i64 Vr) ∧ v.cell? ⟨br, 1, none⟩ = some (.bool gr) ∧ v.cell? ⟨br, 2, none⟩ = some (.slice pr lr cr) ∧ v.cell? ⟨bn, 0, none⟩ = some (.int .i64 Vn) ∧ v.cell? ⟨bn, 1, none⟩ = some (.bool gn) ∧ v.cell? ⟨bn, 2, none⟩ = some (.slice pn ln cn)) (first | with_reducible exact ⟨x0, x1, x2, x3, x4, x5⟩ | with_reducible exact ⟨s0, s1, s2, s3, s4, s5⟩ | with_reducible exact ⟨t0, t1, t2, t3, t4, t5⟩ | (go_keep; done)) (first | (go_at_call 88; refine (num_mul_any (w := W.drew) NRp.drew NRp.drew (by decide) (by decide) (by decide)).mono ?_; rintro e w6 ⟨v6, rfl, N6, hc6⟩; obtain ⟨V6, g6, p6, l6, c6, rfl⟩ := N6.parts; (have hb6 : Below W.heap.size W w6 := ⟨hc6.os, hc6.tape, hc6.output, hc6.size, hc6.block⟩); (have TR6 := TRp.next hb6); (have TN6 := TNp.next hb6); (have TQ6 := TP.next hb6); (have NM6 := NMp.next hb6); (have NP6 := NPp.next hb6); (have b6 := bP.trans (hb6.mono bP.size)); obtain ⟨⟨s0, s1, s2⟩, _⟩ := blk3 TR6; obtain ⟨⟨s3, s4, s5⟩, _⟩ := blk3 TN6) | (go_at_call 92; refine (num_cmp (w := w6) N6 NM6 (by decide) (by decide) (by have := Int.mul_nonneg (Int.natCast_nonneg r) (Int.natCast_nonneg r); exact this) (by omega)).mono ?_; rw [hz]; rintro e w7 ⟨rfl, hb7⟩; (have TR7 := TR6.next hb7); (have TN7 := TN6.next hb7); (have TQ7 := TQ6.next hb7); (have NP7 := NP6.next hb7); (have b7 := b6.trans (hb7.mono b6.size)); obtain ⟨⟨t0, t1, t2⟩, _⟩ := blk3 TR7; obtain ⟨⟨t3, t4, t5⟩, _⟩ := blk3 TN7))
  clear x0 x1 x2 x3 x4 x5 s0 s1 s2 s3 s4 s5 t0 t1 t2 t3 t4 t5 TP TRp TNp NMp NRp NPp NM6 N6 NP6 TR6 TN6 TQ6 hb6 hb7 hc6 b6 bP TR7 TN7
  obtain ⟨⟨y0, y1, y2⟩, f0', f1', f2'⟩ := blk3 TQ7
  go_wp2
  · go_region_with (first | (go_at_call 78; refine (zSmall 1 (by decide) (by decide) _).mono ?_; rintro e w8 ⟨rfl, hc8⟩; (have hb8 : Below w7.heap.size w7 w8 := ⟨hc8.os, hc8.tape, hc8.output, hc8.size, hc8.block⟩); (have TQ8 := TQ7.next hb8); (have NP8 := NP7.next hb8); (have b8 := b7.trans (hb8.mono b7.size)); obtain ⟨⟨d0, d1, d2⟩, d3, d4, d5⟩ := blk3 TQ8) | (go_at_call 91; refine (num_add (w := w8) NP8 (num_small w8 3 1 (by decide) (by decide)) (by decide) (by decide) (by decide)).mono ?_; rintro e w9 ⟨v9, rfl, N9, hb9⟩; obtain ⟨Ve, ge, pe, le, ce, rfl⟩ := N9.parts; (have TQ9 := TQ8.next hb9); (have b9 := b8.trans (hb9.mono b8.size)); obtain ⟨⟨h0, h1, h2⟩, h3, h4, h5⟩ := blk3 TQ9))
    all_goals
      obtain ⟨WE, hWE⟩ : ∃ W, W = ((w9.setCell ⟨bq, 0, none⟩ (.int .i64 Ve)).setCell ⟨bq, 1, none⟩ (.bool ge)).setCell ⟨bq, 2, none⟩ (.slice pe le ce) := ⟨_, rfl⟩
      have TE : Three WE bq (.int .i64 Ve) (.bool ge) (.slice pe le ce) := by rw [hWE]; exact TQ9.set _ _ _
      have NE : Num WE 11 (.agg #[.int .i64 Ve, .bool ge, .slice pe le ce]) (((2 * r + 1) : Nat) : Int) := by rw [hWE]; have h := N9.set3 TQ9 (.int .i64 Ve) (.bool ge) (.slice pe le ce); rw [show (r : Int) + (r : Int) + 1 = (((2 * r + 1) : Nat) : Int) by omega] at h; exact h
      have bE : Below w.heap.size w WE := by rw [hWE]; exact below_set3 b9 kbq _ _ _
      (try rw [← hWE])
      clear hWE N9 TQ9 TQ8 NP8 NP7 TQ7 b8 b9 hb8 hb9 hc8 d0 d1 d2 d3 d4 d5 h0 h1 h2 h3 h4 h5 y0 y1 y2
      obtain ⟨⟨u0, u1, u2⟩, _⟩ := blk3 TE
      go_wp2
      go_region_held3 (fun v => v.cell? ⟨bq, 0, none⟩ = some (.int .i64 Ve) ∧ v.cell? ⟨bq, 1, none⟩ = some (.bool ge) ∧ v.cell? ⟨bq, 2, none⟩ = some (.slice pe le ce)) (first | with_reducible exact ⟨u0, u1, u2⟩ | with_reducible exact ⟨m0, m1, m2⟩ | with_reducible exact ⟨k0, k1, k2⟩ | with_reducible exact ⟨j0, j1, j2⟩ | (go_keep; done)) (first | (go_at_call 78; refine (zSmall 1 (by decide) (by decide) _).mono ?_; rintro e w10 ⟨rfl, hc10⟩; (have hb10 : Below WE.heap.size WE w10 := ⟨hc10.os, hc10.tape, hc10.output, hc10.size, hc10.block⟩); (have T10 := TE.next hb10); (have N10 := NE.next hb10); (have b10 := bE.trans (hb10.mono bE.size)); obtain ⟨⟨m0, m1, m2⟩, _⟩ := blk3 T10) | (go_at_call 42; refine (zWord _).mono ?_; rintro e w11 ⟨rfl, hb11⟩; (have T11 := T10.next hb11); (have N11 := N10.next hb11); (have b11 := b10.trans (hb11.mono b10.size)); obtain ⟨⟨k0, k1, k2⟩, _⟩ := blk3 T11) | (go_at_call 40; (try rw [ew1.out]); (try rw [ew2.out]); (with_reducible show Calls Tryd.prog 40 #[Value.agg #[Value.int IntKind.i64 Ve, Value.bool ge, Value.slice pe le ce, Value.int IntKind.i64 1, Value.bool false, Value.slice none 0 0, Value.int IntKind.i64 (D - 41)], _, _] w11 _); refine ((Hid.out HT) w11 11 3 Ve 1 ge false pe none le ce 0 0 N11 (num_small w11 3 1 (by decide) (by decide)) (by decide) (by decide)).mono ?_; rintro e w12 ⟨rfl, hb12⟩; (have T12 := T11.next hb12); (have b12 := b11.trans (hb12.mono b11.size)); obtain ⟨⟨j0, j1, j2⟩, _⟩ := blk3 T12))
      all_goals go_wp2
      all_goals go_ret
      all_goals exact ⟨by first | rfl | (show Ending.returned (.int .u32 (IntKind.u32.wrap R)) = _; rw [hwR]), b12⟩
include TA in
set_option maxRecDepth 100000 in
set_option maxHeartbeats 1500000 in
theorem s_num1q (w : World) (S M r : Nat) (p F R : Int) (S1 : S < 16777216) (S0 : 0 < S) (p0 : -149 ≤ p) (p1 : p ≤ 105) (hp2 : ¬ Int.tmod p 2 = 0) (hF : Int.tdiv (p - 1) 2 - 41 = F) (f0 : -200 ≤ F) (f1 : F ≤ 200) (hM : ((S : Int) * 2) * 2 ^ 80 = (M : Int)) (M0 : 0 < M) (M1 : M < 100000000000000000000000000000000) (hr : IsRoot M r) (hsq : r * r = M) (pA : Hid (∀ v : World, Calls Tryd.prog 50 #[.int .u32 a] v fun e' w' => e' = .returned (.tuple #[.int .i64 S, .int .i64 p]) ∧ w' = v)) (r0 : 0 ≤ R) (r1 : R < 4294967296)
    (HT : Hid (∀ (v : World) (K L : Nat) (VP VQ : Int) (gP gQ : Bool) (pP pQ : Option Addr) (lP cP lQ cQ : Nat), Num v K (.agg #[.int .i64 VP, .bool gP, .slice pP lP cP]) (((2 * r) : Nat) : Int) → Num v L (.agg #[.int .i64 VQ, .bool gQ, .slice pQ lQ cQ]) 1 → 2 ≤ K → K ≤ 9000 → Calls Tryd.prog 40 #[.agg #[.int .i64 VP, .bool gP, .slice pP lP cP, .int .i64 VQ, .bool gQ, .slice pQ lQ cQ, .int .i64 F], .agg #[.int .i64 24, .int .i64 (-149), .int .i64 104], .int .i64 mode] v fun e w' => e = .returned (.int .i64 R) ∧ Below v.heap.size v w')) :
    Calls Tryd.prog 65 #[.int .u32 a, .int .i64 mode] w fun e w' => e = .returned (.int .u32 R) ∧ Below w.heap.size w w' := by
  have nA : Hid (∀ v : World, Calls Tryd.prog 67 #[.int .u32 a] v fun e w' => e = .returned (.bool false) ∧ w' = v) := TA.neg
  have qA : Hid (∀ v : World, Calls Tryd.prog 47 #[.int .u32 a] v fun e w' => e = .returned (.bool (decide ((1 : Int) = 3))) ∧ w' = v) := TA.nan
  have iA : Hid (∀ v : World, Calls Tryd.prog 48 #[.int .u32 a] v fun e w' => e = .returned (.bool (decide ((1 : Int) = 2))) ∧ w' = v) := TA.inf
  have zA : Hid (∀ v : World, Calls Tryd.prog 49 #[.int .u32 a] v fun e w' => e = .returned (.bool (decide ((1 : Int) = 0))) ∧ w' = v) := TA.nil
  clear TA
  simp only [Int.reduceEq, decide_false] at qA iA zA
  have hwR : IntKind.u32.wrap R = R := by rw [IntKind.wrap_u32]; exact Int.emod_eq_of_lt r0 r1
  obtain ⟨D, hD⟩ : ∃ D, Int.tdiv (p - 1) 2 = D := ⟨_, rfl⟩
  have hDF : D - 41 = F := by omega
  have D0 : -159 ≤ D := by omega
  have D1 : D ≤ 241 := by omega
  subst hDF
  have ew1 : Hid (IntKind.i64.wrap D = D) := wr64 D (by omega) (by omega)
  have ew2 : Hid (IntKind.i64.wrap (D - 41) = D - 41) := wr64 (D - 41) (by omega) (by omega)
  have hp2' : (Int.tmod p 2 == 0) = false := by simpa using hp2
  have m18 : -1000000000000000000 < ((S : Int) * 2) ∧ ((S : Int) * 2) < 1000000000000000000 := by omega
  have HM : Hid (((S : Int) * 2) * 2 ^ 80 = (M : Int)) := hM
  have HR : Hid (IsRoot M r ∧ r * r = M) := ⟨hr, hsq⟩
  obtain ⟨z, hz⟩ : ∃ z, cmpZ ((r : Int) * (r : Int)) (M : Int) = z := ⟨_, rfl⟩
  have z0 : z = 0 := by
    rw [← hz]
    have e : ((r * r : Nat) : Int) = (r : Int) * (r : Int) := by simp
    unfold cmpZ
    (repeat' split) <;> omega
  subst z0
  have tp : Hid ((M : Int).natAbs < 1000000000 ^ 4) := by show _ < _; rw [Int.natAbs_natCast]; omega
  clear hM hr hsq hF
  go_enter Tryd.func65, Tryd.ntmps65
  go_wp2_with (first | (go_at_call 67; refine ((Hid.out nA) _).mono ?_; rintro e w' ⟨rfl, hw⟩; subst w') | (go_at_call 47; refine ((Hid.out qA) _).mono ?_; rintro e w' ⟨rfl, hw⟩; subst w') | (go_at_call 48; refine ((Hid.out iA) _).mono ?_; rintro e w' ⟨rfl, hw⟩; subst w') | (go_at_call 49; refine ((Hid.out zA) _).mono ?_; rintro e w' ⟨rfl, hw⟩; subst w') | (go_at_call 50; refine ((Hid.out pA) _).mono ?_; rintro e w' ⟨rfl, hw⟩; subst w') | (go_at_call 78; refine (zSmall ((S : Int) * 2) m18.1 m18.2 w).mono ?_; rintro e w1 ⟨rfl, hb1⟩) | (go_at_call 89; refine (num_power 80 (by decide) w1).mono ?_; rintro e w2 ⟨v2, rfl, N2, hb2⟩; obtain ⟨V2, g2, p2, l2, c2, rfl⟩ := N2.parts) | (go_at_call 88; refine (num_mul_any (w := w2) (num_small w2 3 ((S : Int) * 2) m18.1 m18.2) N2 (by decide) (by decide) (by decide)).mono ?_; rintro e w3 ⟨v3, rfl, N3a, hb3⟩; obtain ⟨Vn, gn, pn, ln, cn, rfl⟩ := N3a.parts; (have N3 := N3a); rw [HM.out] at N3; (have NM := N3.tight (k := 4) tp.out); (have b3 := (hb1.trans (hb2.mono hb1.size)).trans (hb3.mono (Nat.le_trans hb1.size hb2.size))); (have aN : Below w3.heap.size w3 (w3.alloc (.cells #[.int .i64 Vn, .bool gn, .slice pn ln cn] 57)) := ((Below.refl _ _).alloc (Nat.le_refl _) _)); (have TN : Three (w3.alloc (.cells #[.int .i64 Vn, .bool gn, .slice pn ln cn] 57)) w3.heap.size (.int .i64 Vn) (.bool gn) (.slice pn ln cn) := heap_alloc_new _ _); (have NMn := NM.next aN); (have bN := b3.trans (aN.mono b3.size)); obtain ⟨⟨n0, n1, n2⟩, _⟩ := blk3 TN) | (go_at_call 90; refine (num_root (w := (w3.alloc (.cells #[.int .i64 Vn, .bool gn, .slice pn ln cn] 57))) NMn (by decide) (by decide) M0 M1).mono ?_; rintro e w4 ⟨v4, r', rfl, hr', N4, hb4⟩; obtain ⟨Vr, gr, pr, lr, cr, rfl⟩ := N4.parts; obtain rfl : r = r' := (hr'.unique HR.out.1).symm; (have TN4 := TN.next hb4); (have NM4 := NMn.next hb4); (have b4 := bN.trans (hb4.mono bN.size)); (have aR : Below w4.heap.size w4 (w4.alloc (.cells #[.int .i64 Vr, .bool gr, .slice pr lr cr] 57)) := ((Below.refl _ _).alloc (Nat.le_refl _) _)); (have TR : Three (w4.alloc (.cells #[.int .i64 Vr, .bool gr, .slice pr lr cr] 57)) w4.heap.size (.int .i64 Vr) (.bool gr) (.slice pr lr cr) := heap_alloc_new _ _); (have TNr := TN4.next aR); (have NMr := NM4.next aR); (have NR := N4.next aR); (have bR := b4.trans (aR.mono b4.size)); obtain ⟨⟨r0', r1', r2'⟩, _⟩ := blk3 TR; clear hr') | (go_at_call 91; (with_reducible show Calls Tryd.prog 91 _ (w4.alloc (.cells #[.int .i64 Vr, .bool gr, .slice pr lr cr] 57)) _); refine (num_add (w := (w4.alloc (.cells #[.int .i64 Vr, .bool gr, .slice pr lr cr] 57))) NR NR (by decide) (by decide) (by decide)).mono ?_; rintro e w5 ⟨v5, rfl, N5, hb5⟩; obtain ⟨Vq, gq, pq, lq, cq, rfl⟩ := N5.parts; (have TN5 := TNr.next hb5); (have TR5 := TR.next hb5); (have NM5 := NMr.next hb5); (have NR5 := NR.next hb5); (have b5 := bR.trans (hb5.mono bR.size)); (have aP : Below w5.heap.size w5 (w5.alloc (.cells #[.int .i64 Vq, .bool gq, .slice pq lq cq] 57)) := ((Below.refl _ _).alloc (Nat.le_refl _) _)); (have TP : Three (w5.alloc (.cells #[.int .i64 Vq, .bool gq, .slice pq lq cq] 57)) w5.heap.size (.int .i64 Vq) (.bool gq) (.slice pq lq cq) := heap_alloc_new _ _); (have TNp := TN5.next aP); (have TRp := TR5.next aP); (have NMp := NM5.next aP); (have NRp := NR5.next aP); (have NPp := N5.next aP); (have bP := b5.trans (aP.mono b5.size)); obtain ⟨⟨x0, x1, x2⟩, _⟩ := blk3 TRp; obtain ⟨⟨x3, x4, x5⟩, _⟩ := blk3 TNp))
  obtain ⟨W, hW⟩ : ∃ W, W = (w5.alloc (.cells #[.int .i64 Vq, .bool gq, .slice pq lq cq] 57)) := ⟨_, rfl⟩
  obtain ⟨bn, hbn⟩ : ∃ b, b = w3.heap.size := ⟨_, rfl⟩
  obtain ⟨br, hbr⟩ : ∃ b, b = w4.heap.size := ⟨_, rfl⟩
  obtain ⟨bq, hbq⟩ : ∃ b, b = w5.heap.size := ⟨_, rfl⟩
  rw [← hW] at TNp TRp NMp NRp NPp bP x0 x1 x2 x3 x4 x5 TP ⊢
  rw [← hbn] at TNp x3 x4 x5
  rw [← hbr] at TRp x0 x1 x2
  rw [← hbq] at TP
  rw [← hbn, ← hbr, ← hbq]
  have nrq : br ≠ bq := by rw [hbr, hbq]; have := TR5.lt; omega
  have nnq : bn ≠ bq := by rw [hbn, hbq]; have := TN5.lt; omega
  have kbq : w.heap.size ≤ bq := by rw [hbq]; exact b5.size
  clear TN TR TN4 TNr TN5 TR5 NMn NM4 NMr NM5 NR NR5 N5 N4 N3 N3a NM N2 n0 n1 n2 r0' r1' r2' hW hbn hbr hbq b3 bN b4 bR b5 hb1 hb2 hb3 hb4 hb5 aN aR aP
  go_region_held3 (fun v => v.cell? ⟨br, 0, none⟩ = some (.int .i64 Vr) ∧ v.cell? ⟨br, 1, none⟩ = some (.bool gr) ∧ v.cell? ⟨br, 2, none⟩ = some (.slice pr lr cr) ∧ v.cell? ⟨bn, 0, none⟩ = some (.int .i64 Vn) ∧ v.cell? ⟨bn, 1, none⟩ = some (.bool gn) ∧ v.cell? ⟨bn, 2, none⟩ = some (.slice pn ln cn)) (first | with_reducible exact ⟨x0, x1, x2, x3, x4, x5⟩ | with_reducible exact ⟨s0, s1, s2, s3, s4, s5⟩ | with_reducible exact ⟨t0, t1, t2, t3, t4, t5⟩ | (go_keep; done)) (first | (go_at_call 88; refine (num_mul_any (w := W.drew) NRp.drew NRp.drew (by decide) (by decide) (by decide)).mono ?_; rintro e w6 ⟨v6, rfl, N6, hc6⟩; obtain ⟨V6, g6, p6, l6, c6, rfl⟩ := N6.parts; (have hb6 : Below W.heap.size W w6 := ⟨hc6.os, hc6.tape, hc6.output, hc6.size, hc6.block⟩); (have TR6 := TRp.next hb6); (have TN6 := TNp.next hb6); (have TQ6 := TP.next hb6); (have NM6 := NMp.next hb6); (have NP6 := NPp.next hb6); (have b6 := bP.trans (hb6.mono bP.size)); obtain ⟨⟨s0, s1, s2⟩, _⟩ := blk3 TR6; obtain ⟨⟨s3, s4, s5⟩, _⟩ := blk3 TN6) | (go_at_call 92; refine (num_cmp (w := w6) N6 NM6 (by decide) (by decide) (by have := Int.mul_nonneg (Int.natCast_nonneg r) (Int.natCast_nonneg r); exact this) (by omega)).mono ?_; rw [hz]; rintro e w7 ⟨rfl, hb7⟩; (have TR7 := TR6.next hb7); (have TN7 := TN6.next hb7); (have TQ7 := TQ6.next hb7); (have NP7 := NP6.next hb7); (have b7 := b6.trans (hb7.mono b6.size)); obtain ⟨⟨t0, t1, t2⟩, _⟩ := blk3 TR7; obtain ⟨⟨t3, t4, t5⟩, _⟩ := blk3 TN7))
  clear x0 x1 x2 x3 x4 x5 s0 s1 s2 s3 s4 s5 t0 t1 t2 t3 t4 t5 TP TRp TNp NMp NRp NPp NM6 N6 NP6 TR6 TN6 TQ6 hb6 hb7 hc6 b6 bP TR7 TN7
  obtain ⟨⟨y0, y1, y2⟩, f0', f1', f2'⟩ := blk3 TQ7
  go_wp2
  · have TE : Three w7 bq (.int .i64 Vq) (.bool gq) (.slice pq lq cq) := TQ7
    have NE : Num w7 7 (.agg #[.int .i64 Vq, .bool gq, .slice pq lq cq]) (((2 * r) : Nat) : Int) := by have h := NP7; rw [show (r : Int) + (r : Int) = (((2 * r) : Nat) : Int) by omega] at h; exact h
    have bE := b7
    obtain ⟨⟨u0, u1, u2⟩, _⟩ := blk3 TE
    go_region_held3 (fun v => v.cell? ⟨bq, 0, none⟩ = some (.int .i64 Vq) ∧ v.cell? ⟨bq, 1, none⟩ = some (.bool gq) ∧ v.cell? ⟨bq, 2, none⟩ = some (.slice pq lq cq)) (first | with_reducible exact ⟨u0, u1, u2⟩ | with_reducible exact ⟨m0, m1, m2⟩ | with_reducible exact ⟨k0, k1, k2⟩ | with_reducible exact ⟨j0, j1, j2⟩ | (go_keep; done)) (first | (go_at_call 78; refine (zSmall 1 (by decide) (by decide) _).mono ?_; rintro e w10 ⟨rfl, hc10⟩; (have hb10 : Below w7.heap.size w7 w10 := ⟨hc10.os, hc10.tape, hc10.output, hc10.size, hc10.block⟩); (have T10 := TE.next hb10); (have N10 := NE.next hb10); (have b10 := bE.trans (hb10.mono bE.size)); obtain ⟨⟨m0, m1, m2⟩, _⟩ := blk3 T10) | (go_at_call 42; refine (zWord _).mono ?_; rintro e w11 ⟨rfl, hb11⟩; (have T11 := T10.next hb11); (have N11 := N10.next hb11); (have b11 := b10.trans (hb11.mono b10.size)); obtain ⟨⟨k0, k1, k2⟩, _⟩ := blk3 T11) | (go_at_call 40; (try rw [ew1.out]); (try rw [ew2.out]); (with_reducible show Calls Tryd.prog 40 #[Value.agg #[Value.int IntKind.i64 Vq, Value.bool gq, Value.slice pq lq cq, Value.int IntKind.i64 1, Value.bool false, Value.slice none 0 0, Value.int IntKind.i64 (D - 41)], _, _] w11 _); refine ((Hid.out HT) w11 7 3 Vq 1 gq false pq none lq cq 0 0 N11 (num_small w11 3 1 (by decide) (by decide)) (by decide) (by decide)).mono ?_; rintro e w12 ⟨rfl, hb12⟩; (have T12 := T11.next hb12); (have b12 := b11.trans (hb12.mono b11.size)); obtain ⟨⟨j0, j1, j2⟩, _⟩ := blk3 T12))
    all_goals go_wp2
    all_goals go_ret
    all_goals exact ⟨by first | rfl | (show Ending.returned (.int .u32 (IntKind.u32.wrap R)) = _; rw [hwR]), b12⟩
include TA in
set_option maxRecDepth 100000 in
set_option maxHeartbeats 1500000 in
theorem s_num1n (w : World) (S M r : Nat) (p F R : Int) (S1 : S < 16777216) (S0 : 0 < S) (p0 : -149 ≤ p) (p1 : p ≤ 105) (hp2 : ¬ Int.tmod p 2 = 0) (hF : Int.tdiv (p - 1) 2 - 41 = F) (f0 : -200 ≤ F) (f1 : F ≤ 200) (hM : ((S : Int) * 2) * 2 ^ 80 = (M : Int)) (M0 : 0 < M) (M1 : M < 100000000000000000000000000000000) (hr : IsRoot M r) (hsq : ¬ r * r = M) (pA : Hid (∀ v : World, Calls Tryd.prog 50 #[.int .u32 a] v fun e' w' => e' = .returned (.tuple #[.int .i64 S, .int .i64 p]) ∧ w' = v)) (r0 : 0 ≤ R) (r1 : R < 4294967296)
    (HT : Hid (∀ (v : World) (K L : Nat) (VP VQ : Int) (gP gQ : Bool) (pP pQ : Option Addr) (lP cP lQ cQ : Nat), Num v K (.agg #[.int .i64 VP, .bool gP, .slice pP lP cP]) (((2 * r + 1) : Nat) : Int) → Num v L (.agg #[.int .i64 VQ, .bool gQ, .slice pQ lQ cQ]) 1 → 2 ≤ K → K ≤ 9000 → Calls Tryd.prog 40 #[.agg #[.int .i64 VP, .bool gP, .slice pP lP cP, .int .i64 VQ, .bool gQ, .slice pQ lQ cQ, .int .i64 F], .agg #[.int .i64 24, .int .i64 (-149), .int .i64 104], .int .i64 mode] v fun e w' => e = .returned (.int .i64 R) ∧ Below v.heap.size v w')) :
    Calls Tryd.prog 65 #[.int .u32 a, .int .i64 mode] w fun e w' => e = .returned (.int .u32 R) ∧ Below w.heap.size w w' := by
  have nA : Hid (∀ v : World, Calls Tryd.prog 67 #[.int .u32 a] v fun e w' => e = .returned (.bool false) ∧ w' = v) := TA.neg
  have qA : Hid (∀ v : World, Calls Tryd.prog 47 #[.int .u32 a] v fun e w' => e = .returned (.bool (decide ((1 : Int) = 3))) ∧ w' = v) := TA.nan
  have iA : Hid (∀ v : World, Calls Tryd.prog 48 #[.int .u32 a] v fun e w' => e = .returned (.bool (decide ((1 : Int) = 2))) ∧ w' = v) := TA.inf
  have zA : Hid (∀ v : World, Calls Tryd.prog 49 #[.int .u32 a] v fun e w' => e = .returned (.bool (decide ((1 : Int) = 0))) ∧ w' = v) := TA.nil
  clear TA
  simp only [Int.reduceEq, decide_false] at qA iA zA
  have hwR : IntKind.u32.wrap R = R := by rw [IntKind.wrap_u32]; exact Int.emod_eq_of_lt r0 r1
  obtain ⟨D, hD⟩ : ∃ D, Int.tdiv (p - 1) 2 = D := ⟨_, rfl⟩
  have hDF : D - 41 = F := by omega
  have D0 : -159 ≤ D := by omega
  have D1 : D ≤ 241 := by omega
  subst hDF
  have ew1 : Hid (IntKind.i64.wrap D = D) := wr64 D (by omega) (by omega)
  have ew2 : Hid (IntKind.i64.wrap (D - 41) = D - 41) := wr64 (D - 41) (by omega) (by omega)
  have hp2' : (Int.tmod p 2 == 0) = false := by simpa using hp2
  have m18 : -1000000000000000000 < ((S : Int) * 2) ∧ ((S : Int) * 2) < 1000000000000000000 := by omega
  have HM : Hid (((S : Int) * 2) * 2 ^ 80 = (M : Int)) := hM
  have HR : Hid (IsRoot M r ∧ ¬ r * r = M) := ⟨hr, hsq⟩
  obtain ⟨z, hz⟩ : ∃ z, cmpZ ((r : Int) * (r : Int)) (M : Int) = z := ⟨_, rfl⟩
  have z0 : ¬ z = 0 := by
    rw [← hz]
    have e : ((r * r : Nat) : Int) = (r : Int) * (r : Int) := by simp
    unfold cmpZ
    (repeat' split) <;> omega
  have z0' : (z == 0) = false := by simpa using z0
  have tp : Hid ((M : Int).natAbs < 1000000000 ^ 4) := by show _ < _; rw [Int.natAbs_natCast]; omega
  clear hM hr hsq hF
  go_enter Tryd.func65, Tryd.ntmps65
  go_wp2_with (first | (go_at_call 67; refine ((Hid.out nA) _).mono ?_; rintro e w' ⟨rfl, hw⟩; subst w') | (go_at_call 47; refine ((Hid.out qA) _).mono ?_; rintro e w' ⟨rfl, hw⟩; subst w') | (go_at_call 48; refine ((Hid.out iA) _).mono ?_; rintro e w' ⟨rfl, hw⟩; subst w') | (go_at_call 49; refine ((Hid.out zA) _).mono ?_; rintro e w' ⟨rfl, hw⟩; subst w') | (go_at_call 50; refine ((Hid.out pA) _).mono ?_; rintro e w' ⟨rfl, hw⟩; subst w') | (go_at_call 78; refine (zSmall ((S : Int) * 2) m18.1 m18.2 w).mono ?_; rintro e w1 ⟨rfl, hb1⟩) | (go_at_call 89; refine (num_power 80 (by decide) w1).mono ?_; rintro e w2 ⟨v2, rfl, N2, hb2⟩; obtain ⟨V2, g2, p2, l2, c2, rfl⟩ := N2.parts) | (go_at_call 88; refine (num_mul_any (w := w2) (num_small w2 3 ((S : Int) * 2) m18.1 m18.2) N2 (by decide) (by decide) (by decide)).mono ?_; rintro e w3 ⟨v3, rfl, N3a, hb3⟩; obtain ⟨Vn, gn, pn, ln, cn, rfl⟩ := N3a.parts; (have N3 := N3a); rw [HM.out] at N3; (have NM := N3.tight (k := 4) tp.out); (have b3 := (hb1.trans (hb2.mono hb1.size)).trans (hb3.mono (Nat.le_trans hb1.size hb2.size))); (have aN : Below w3.heap.size w3 (w3.alloc (.cells #[.int .i64 Vn, .bool gn, .slice pn ln cn] 57)) := ((Below.refl _ _).alloc (Nat.le_refl _) _)); (have TN : Three (w3.alloc (.cells #[.int .i64 Vn, .bool gn, .slice pn ln cn] 57)) w3.heap.size (.int .i64 Vn) (.bool gn) (.slice pn ln cn) := heap_alloc_new _ _); (have NMn := NM.next aN); (have bN := b3.trans (aN.mono b3.size)); obtain ⟨⟨n0, n1, n2⟩, _⟩ := blk3 TN) | (go_at_call 90; refine (num_root (w := (w3.alloc (.cells #[.int .i64 Vn, .bool gn, .slice pn ln cn] 57))) NMn (by decide) (by decide) M0 M1).mono ?_; rintro e w4 ⟨v4, r', rfl, hr', N4, hb4⟩; obtain ⟨Vr, gr, pr, lr, cr, rfl⟩ := N4.parts; obtain rfl : r = r' := (hr'.unique HR.out.1).symm; (have TN4 := TN.next hb4); (have NM4 := NMn.next hb4); (have b4 := bN.trans (hb4.mono bN.size)); (have aR : Below w4.heap.size w4 (w4.alloc (.cells #[.int .i64 Vr, .bool gr, .slice pr lr cr] 57)) := ((Below.refl _ _).alloc (Nat.le_refl _) _)); (have TR : Three (w4.alloc (.cells #[.int .i64 Vr, .bool gr, .slice pr lr cr] 57)) w4.heap.size (.int .i64 Vr) (.bool gr) (.slice pr lr cr) := heap_alloc_new _ _); (have TNr := TN4.next aR); (have NMr := NM4.next aR); (have NR := N4.next aR); (have bR := b4.trans (aR.mono b4.size)); obtain ⟨⟨r0', r1', r2'⟩, _⟩ := blk3 TR; clear hr') | (go_at_call 91; (with_reducible show Calls Tryd.prog 91 _ (w4.alloc (.cells #[.int .i64 Vr, .bool gr, .slice pr lr cr] 57)) _); refine (num_add (w := (w4.alloc (.cells #[.int .i64 Vr, .bool gr, .slice pr lr cr] 57))) NR NR (by decide) (by decide) (by decide)).mono ?_; rintro e w5 ⟨v5, rfl, N5, hb5⟩; obtain ⟨Vq, gq, pq, lq, cq, rfl⟩ := N5.parts; (have TN5 := TNr.next hb5); (have TR5 := TR.next hb5); (have NM5 := NMr.next hb5); (have NR5 := NR.next hb5); (have b5 := bR.trans (hb5.mono bR.size)); (have aP : Below w5.heap.size w5 (w5.alloc (.cells #[.int .i64 Vq, .bool gq, .slice pq lq cq] 57)) := ((Below.refl _ _).alloc (Nat.le_refl _) _)); (have TP : Three (w5.alloc (.cells #[.int .i64 Vq, .bool gq, .slice pq lq cq] 57)) w5.heap.size (.int .i64 Vq) (.bool gq) (.slice pq lq cq) := heap_alloc_new _ _); (have TNp := TN5.next aP); (have TRp := TR5.next aP); (have NMp := NM5.next aP); (have NRp := NR5.next aP); (have NPp := N5.next aP); (have bP := b5.trans (aP.mono b5.size)); obtain ⟨⟨x0, x1, x2⟩, _⟩ := blk3 TRp; obtain ⟨⟨x3, x4, x5⟩, _⟩ := blk3 TNp))
  obtain ⟨W, hW⟩ : ∃ W, W = (w5.alloc (.cells #[.int .i64 Vq, .bool gq, .slice pq lq cq] 57)) := ⟨_, rfl⟩
  obtain ⟨bn, hbn⟩ : ∃ b, b = w3.heap.size := ⟨_, rfl⟩
  obtain ⟨br, hbr⟩ : ∃ b, b = w4.heap.size := ⟨_, rfl⟩
  obtain ⟨bq, hbq⟩ : ∃ b, b = w5.heap.size := ⟨_, rfl⟩
  rw [← hW] at TNp TRp NMp NRp NPp bP x0 x1 x2 x3 x4 x5 TP ⊢
  rw [← hbn] at TNp x3 x4 x5
  rw [← hbr] at TRp x0 x1 x2
  rw [← hbq] at TP
  rw [← hbn, ← hbr, ← hbq]
  have nrq : br ≠ bq := by rw [hbr, hbq]; have := TR5.lt; omega
  have nnq : bn ≠ bq := by rw [hbn, hbq]; have := TN5.lt; omega
  have kbq : w.heap.size ≤ bq := by rw [hbq]; exact b5.size
  clear TN TR TN4 TNr TN5 TR5 NMn NM4 NMr NM5 NR NR5 N5 N4 N3 N3a NM N2 n0 n1 n2 r0' r1' r2' hW hbn hbr hbq b3 bN b4 bR b5 hb1 hb2 hb3 hb4 hb5 aN aR aP
  go_region_held3 (fun v => v.cell? ⟨br, 0, none⟩ = some (.int .i64 Vr) ∧ v.cell? ⟨br, 1, none⟩ = some (.bool gr) ∧ v.cell? ⟨br, 2, none⟩ = some (.slice pr lr cr) ∧ v.cell? ⟨bn, 0, none⟩ = some (.int .i64 Vn) ∧ v.cell? ⟨bn, 1, none⟩ = some (.bool gn) ∧ v.cell? ⟨bn, 2, none⟩ = some (.slice pn ln cn)) (first | with_reducible exact ⟨x0, x1, x2, x3, x4, x5⟩ | with_reducible exact ⟨s0, s1, s2, s3, s4, s5⟩ | with_reducible exact ⟨t0, t1, t2, t3, t4, t5⟩ | (go_keep; done)) (first | (go_at_call 88; refine (num_mul_any (w := W.drew) NRp.drew NRp.drew (by decide) (by decide) (by decide)).mono ?_; rintro e w6 ⟨v6, rfl, N6, hc6⟩; obtain ⟨V6, g6, p6, l6, c6, rfl⟩ := N6.parts; (have hb6 : Below W.heap.size W w6 := ⟨hc6.os, hc6.tape, hc6.output, hc6.size, hc6.block⟩); (have TR6 := TRp.next hb6); (have TN6 := TNp.next hb6); (have TQ6 := TP.next hb6); (have NM6 := NMp.next hb6); (have NP6 := NPp.next hb6); (have b6 := bP.trans (hb6.mono bP.size)); obtain ⟨⟨s0, s1, s2⟩, _⟩ := blk3 TR6; obtain ⟨⟨s3, s4, s5⟩, _⟩ := blk3 TN6) | (go_at_call 92; refine (num_cmp (w := w6) N6 NM6 (by decide) (by decide) (by have := Int.mul_nonneg (Int.natCast_nonneg r) (Int.natCast_nonneg r); exact this) (by omega)).mono ?_; rw [hz]; rintro e w7 ⟨rfl, hb7⟩; (have TR7 := TR6.next hb7); (have TN7 := TN6.next hb7); (have TQ7 := TQ6.next hb7); (have NP7 := NP6.next hb7); (have b7 := b6.trans (hb7.mono b6.size)); obtain ⟨⟨t0, t1, t2⟩, _⟩ := blk3 TR7; obtain ⟨⟨t3, t4, t5⟩, _⟩ := blk3 TN7))
  clear x0 x1 x2 x3 x4 x5 s0 s1 s2 s3 s4 s5 t0 t1 t2 t3 t4 t5 TP TRp TNp NMp NRp NPp NM6 N6 NP6 TR6 TN6 TQ6 hb6 hb7 hc6 b6 bP TR7 TN7
  obtain ⟨⟨y0, y1, y2⟩, f0', f1', f2'⟩ := blk3 TQ7
  go_wp2
  · go_region_with (first | (go_at_call 78; refine (zSmall 1 (by decide) (by decide) _).mono ?_; rintro e w8 ⟨rfl, hc8⟩; (have hb8 : Below w7.heap.size w7 w8 := ⟨hc8.os, hc8.tape, hc8.output, hc8.size, hc8.block⟩); (have TQ8 := TQ7.next hb8); (have NP8 := NP7.next hb8); (have b8 := b7.trans (hb8.mono b7.size)); obtain ⟨⟨d0, d1, d2⟩, d3, d4, d5⟩ := blk3 TQ8) | (go_at_call 91; refine (num_add (w := w8) NP8 (num_small w8 3 1 (by decide) (by decide)) (by decide) (by decide) (by decide)).mono ?_; rintro e w9 ⟨v9, rfl, N9, hb9⟩; obtain ⟨Ve, ge, pe, le, ce, rfl⟩ := N9.parts; (have TQ9 := TQ8.next hb9); (have b9 := b8.trans (hb9.mono b8.size)); obtain ⟨⟨h0, h1, h2⟩, h3, h4, h5⟩ := blk3 TQ9))
    all_goals
      obtain ⟨WE, hWE⟩ : ∃ W, W = ((w9.setCell ⟨bq, 0, none⟩ (.int .i64 Ve)).setCell ⟨bq, 1, none⟩ (.bool ge)).setCell ⟨bq, 2, none⟩ (.slice pe le ce) := ⟨_, rfl⟩
      have TE : Three WE bq (.int .i64 Ve) (.bool ge) (.slice pe le ce) := by rw [hWE]; exact TQ9.set _ _ _
      have NE : Num WE 11 (.agg #[.int .i64 Ve, .bool ge, .slice pe le ce]) (((2 * r + 1) : Nat) : Int) := by rw [hWE]; have h := N9.set3 TQ9 (.int .i64 Ve) (.bool ge) (.slice pe le ce); rw [show (r : Int) + (r : Int) + 1 = (((2 * r + 1) : Nat) : Int) by omega] at h; exact h
      have bE : Below w.heap.size w WE := by rw [hWE]; exact below_set3 b9 kbq _ _ _
      (try rw [← hWE])
      clear hWE N9 TQ9 TQ8 NP8 NP7 TQ7 b8 b9 hb8 hb9 hc8 d0 d1 d2 d3 d4 d5 h0 h1 h2 h3 h4 h5 y0 y1 y2
      obtain ⟨⟨u0, u1, u2⟩, _⟩ := blk3 TE
      go_wp2
      go_region_held3 (fun v => v.cell? ⟨bq, 0, none⟩ = some (.int .i64 Ve) ∧ v.cell? ⟨bq, 1, none⟩ = some (.bool ge) ∧ v.cell? ⟨bq, 2, none⟩ = some (.slice pe le ce)) (first | with_reducible exact ⟨u0, u1, u2⟩ | with_reducible exact ⟨m0, m1, m2⟩ | with_reducible exact ⟨k0, k1, k2⟩ | with_reducible exact ⟨j0, j1, j2⟩ | (go_keep; done)) (first | (go_at_call 78; refine (zSmall 1 (by decide) (by decide) _).mono ?_; rintro e w10 ⟨rfl, hc10⟩; (have hb10 : Below WE.heap.size WE w10 := ⟨hc10.os, hc10.tape, hc10.output, hc10.size, hc10.block⟩); (have T10 := TE.next hb10); (have N10 := NE.next hb10); (have b10 := bE.trans (hb10.mono bE.size)); obtain ⟨⟨m0, m1, m2⟩, _⟩ := blk3 T10) | (go_at_call 42; refine (zWord _).mono ?_; rintro e w11 ⟨rfl, hb11⟩; (have T11 := T10.next hb11); (have N11 := N10.next hb11); (have b11 := b10.trans (hb11.mono b10.size)); obtain ⟨⟨k0, k1, k2⟩, _⟩ := blk3 T11) | (go_at_call 40; (try rw [ew1.out]); (try rw [ew2.out]); (with_reducible show Calls Tryd.prog 40 #[Value.agg #[Value.int IntKind.i64 Ve, Value.bool ge, Value.slice pe le ce, Value.int IntKind.i64 1, Value.bool false, Value.slice none 0 0, Value.int IntKind.i64 (D - 41)], _, _] w11 _); refine ((Hid.out HT) w11 11 3 Ve 1 ge false pe none le ce 0 0 N11 (num_small w11 3 1 (by decide) (by decide)) (by decide) (by decide)).mono ?_; rintro e w12 ⟨rfl, hb12⟩; (have T12 := T11.next hb12); (have b12 := b11.trans (hb12.mono b11.size)); obtain ⟨⟨j0, j1, j2⟩, _⟩ := blk3 T12))
      all_goals go_wp2
      all_goals go_ret
      all_goals exact ⟨by first | rfl | (show Ending.returned (.int .u32 (IntKind.u32.wrap R)) = _; rw [hwR]), b12⟩
end
end Go.Proofs.YtamoakodlmjbiaaDoor.fnExactRootWord
