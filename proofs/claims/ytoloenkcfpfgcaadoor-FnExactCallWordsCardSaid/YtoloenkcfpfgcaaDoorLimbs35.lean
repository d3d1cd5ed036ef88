/- Contract of the model's l1Round for the form of 24 bits: the size is rounded as the mode says; conditions: numerator and denominator below 10^540, powers up to 1000, the step that it ends at is given. -/
import Derived.Test.YtoloenkcfpfgcaaDoorLimbs34
namespace Go.Proofs.YtoloenkcfpfgcaaDoor
open Go.ChangeShapes Go.WideShapes Go.ChangeAt Go.RowKit
set_option linter.unusedVariables false
set_option maxRecDepth 100000 in
set_option maxHeartbeats 16000000 in
theorem num_round_w {w : World} {K L : Nat} {VP VQ : Int} {gP gQ : Bool} {pP pQ : Option Addr} {lP cP lQ cQ : Nat} {P Q : Int} (HP : Num w K (.agg #[.int .i64 VP, .bool gP, .slice pP lP cP]) P) (HQ : Num w L (.agg #[.int .i64 VQ, .bool gQ, .slice pQ lQ cQ]) Q)
    (K2 : 2 ≤ K) (K3 : K ≤ 9000) (P0 : P ≠ 0) (E : Int) (e0 : -1000 ≤ E) (e1 : E ≤ 1000) (N D N0 D0 : Nat) (hN0 : N0 = P.natAbs) (hD0 : (D0 : Int) = Q) (hN : N = N0 * 2 ^ E.toNat) (hD : D = D0 * 2 ^ (-E).toNat) (Dp : 0 < D0) (N9 : N < 1000000000 ^ 60) (D9 : D < 1000000000 ^ 60)
    (mode : Int) (m0 : 0 ≤ mode) (m4 : mode ≤ 4) (neg : Bool) (es : Int) (s0 : -149 ≤ es) (s1 : es ≤ 900) (hlt : sa N es < 16777216 * sb D es) (hge : es = -149 ∨ 16777216 * sb D (es - 1) ≤ sa N (es - 1))
    (M c : Int) (g : Bool) (hM : ((sa N es / sb D es : Nat) : Int) = M) (hc : leftI (sa N es % sb D es) (sb D es) = c) (hg : goesB mode neg M c = g) (K' : Int) (hK' : K' = if g then M + 1 else M) :
    Calls Tryd.prog 59 #[.agg #[.int .i64 VP, .bool gP, .slice pP lP cP, .int .i64 VQ, .bool gQ, .slice pQ lQ cQ, .int .i64 E], .agg #[.int .i64 24, .int .i64 (-149), .int .i64 104], .int .i64 mode, .bool neg] w fun e w' => e = .returned (.tuple #[.int .i64 (if K' = 16777216 then 8388608 else K'), .int .i64 (if K' = 16777216 then es + 1 else es)]) ∧ Below w.heap.size w w' := by
  have Np : 0 < N0 := by omega
  have hN0le : N0 ≤ N := by rw [hN]; exact Nat.le_mul_of_pos_right _ (p2 _)
  have hD0le : D0 ≤ D := by rw [hD]; exact Nat.le_mul_of_pos_right _ (p2 _)
  have Npp : 0 < N := by omega
  have Dpp : 0 < D := by omega
  have HK' : Hid (K' = if g then M + 1 else M) := hK'
  have HG : Hid (goesB mode neg M c = g) := hg
  have HC : Hid (leftI (sa N es % sb D es) (sb D es) = c) := hc
  have HM : Hid (((sa N es / sb D es : Nat) : Int) = M) := hM
  have HLT : Hid (sa N es < 16777216 * sb D es) := hlt
  have HGE : Hid (∀ i, -149 ≤ i → i < es → 16777216 * sb D i ≤ sa N i) := fun i h1 h2 => by
    rcases hge with h | h
    · omega
    · exact sc_mono N D 16777216 i (es - 1) (by omega) h
  have HN9 : Hid (N < 1000000000 ^ 60) := N9
  have HD9 : Hid (D < 1000000000 ^ 60) := D9
  have HNN : Hid (N = N0 * 2 ^ E.toNat) := hN
  have HDD : Hid (D = D0 * 2 ^ (-E).toNat) := hD
  have HN0 : Hid (N0 = P.natAbs) := hN0
  have HQ0 : Hid ((D0 : Int) = Q) := hD0
  clear hg hc hM hlt hge N9 D9 hN hD hK' hN0 hD0
  go_enter Tryd.func59, Tryd.ntmps59
  go_upto_if 32 with (first | (go_at_call 63; refine (num_limbs (HP.next (by repeat (first | (with_reducible refine Below.alloc ?_ (by first | omega | (simp; try omega)) _) | (with_reducible exact Below.refl _ _)))) P0 K2).mono ?_; rintro e w1 ⟨b, n, cb, x, rfl, ncb, nK, n5, RX, hvx, hb1⟩; have hz1 := hb1.size; (try simp at hz1)) | (go_at_call 64; refine (make_any false n b cb x _ (by omega) ncb RX.cell RX.hi RX.lt).mono ?_; rintro e w2 ⟨he, hb2⟩; obtain ⟨V1, g1, p1, l1, c1, hMZ⟩ := madeZ_parts false b cb (trim x n) x; have HMZ : Hid (_ = _) := hMZ; (have he2 := he.trans (congrArg Ending.returned hMZ)); clear he hMZ; subst he2; have hz2 := hb2.size; (have X0 := (hb2.block w.heap.size (by omega)).trans ((hb1.block w.heap.size (by simp; omega)).trans ((Below.heap_alloc _ _ _ (by simp)).trans (heap_alloc_new _ _)))); (have F0 := (hb2.block (w.heap.size + 1) (by omega)).trans ((hb1.block (w.heap.size + 1) (by simp)).trans (heap_alloc_at (by simp)))); (have hbw2 : Below w.heap.size w w2 := by repeat (first | (with_reducible refine Below.setCell ?_ (by first | omega | (simp; try omega)) _) | (with_reducible refine Below.alloc ?_ (by first | omega | (simp; try omega)) _) | (with_reducible apply Below.drew) | (with_reducible apply below_drewN) | (with_reducible exact Below.refl _ _) | (with_reducible refine Below.trans ?_ (hb2.mono (by first | omega | (simp; try omega)))) | (with_reducible refine Below.trans ?_ (hb1.mono (by first | omega | (simp; try omega)))))); (obtain ⟨⟨x0, x1, x2, x3, x4, x5, x6⟩, y0, y1, y2, y3, y4, y5, y6⟩ := blk7 X0); (have hne1 : w.heap.size < w2.heap.size := by omega); (have hne2 : w.heap.size + 1 < w2.heap.size := by omega)))
  obtain ⟨W, hW⟩ : ∃ W, W = (w2.alloc (.cells #[.int .i64 V1, .bool g1, .slice p1 l1 c1] 50)).alloc (.cells #[.int .i64 VQ, .bool gQ, .slice pQ lQ cQ] 50) := ⟨_, rfl⟩
  obtain ⟨a, ha⟩ : ∃ a, a = w2.heap.size := ⟨_, rfl⟩
  have XW : W.heap[w.heap.size]? = some (.cells #[.int .i64 VP, .bool gP, .slice pP lP cP, .int .i64 VQ, .bool gQ, .slice pQ lQ cQ, .int .i64 E] 52 (0, 0)) := by rw [hW, Below.heap_alloc _ _ _ (by simp; omega), Below.heap_alloc _ _ _ (by omega)]; exact X0
  have hBW : Below w2.heap.size w2 W := by rw [hW]; exact ((Below.refl _ _).alloc (Nat.le_refl _) _).alloc (by simp) _
  have NZ : Num w2 60 (.agg #[.int .i64 V1, .bool g1, .slice p1 l1 c1]) (N0 : Int) := by
    have h := num_madeR (RX.next hb2) false cb ncb n5
    rw [HMZ.out, sg_false, hvx, ← HN0.out] at h
    exact h.tight (by have := HN9.out; simp only [Int.natAbs_natCast]; omega)
  have NQ : Num w2 60 (.agg #[.int .i64 VQ, .bool gQ, .slice pQ lQ cQ]) (D0 : Int) := by
    have h := HQ.next hbw2
    rw [← HQ0.out] at h
    exact h.tight (by have := HD9.out; simp only [Int.natAbs_natCast]; omega)
  have RW : RC 24 (-149) 104 w W a N0 D0 V1 g1 p1 l1 c1 VQ gQ pQ lQ cQ := ⟨by rw [hW, Below.heap_alloc _ _ _ (by simp; omega), Below.heap_alloc _ _ _ (by omega)]; exact F0, by show W.heap[_]? = _; rw [hW, ha, Below.heap_alloc _ _ _ (by simp)]; exact heap_alloc_new _ _, by show W.heap[_]? = _; rw [hW, ha]; exact heap_alloc_at (by simp), NZ.next hBW, NQ.next hBW, hbw2.trans (hBW.mono (by omega)), by omega⟩
  rw [← hW, ← ha]
  clear hW x0 x1 x2 x3 x4 x5 x6 y0 y1 y2 y3 y4 y5 y6 hne1 hne2 hz1 hz2 X0 F0 hbw2 hb1 hb2 ha NZ NQ hBW HMZ hvx RX HP HQ ncb nK n5
  obtain ⟨⟨_, _, _, _, _, _, x6⟩, _⟩ := blk7 XW
  have lx := lt_of_block XW
  have SW := RW.sz
  have LW := RW.lo
  go_cut [] (fun wx => ∃ V1 g1 p1 l1 c1 V2 g2 p2 l2 c2, RC 24 (-149) 104 w wx a N D V1 g1 p1 l1 c1 V2 g2 p2 l2 c2)
  case first =>
    by_cases hE : 0 ≤ E
    · obtain ⟨k, hk⟩ := Int.eq_ofNat_of_zero_le hE
      have HEk : Hid (E = (k : Int)) := hk
      have hk9 : k ≤ 1000 := by omega
      have hNk : ((N : Nat) : Int) = (N0 : Int) * 2 ^ k := by rw [HNN.out, hk]; exact cast_pow N0 k
      have hDk : D = D0 := by rw [HDD.out, hk, show (-((k : Nat) : Int)).toNat = 0 by omega]; simp
      have HNk : Hid (((N : Nat) : Int) = (N0 : Int) * 2 ^ k) := hNk
      have HDk : Hid (D = D0) := hDk
      have HPOW : Hid (∀ wx : World, Calls Tryd.prog 39 #[.int .i64 E] wx fun r w' => ∃ v, r = .returned v ∧ Num w' 100 v (2 ^ k) ∧ Below wx.heap.size wx w') := fun wx => by rw [hk]; exact num_power k hk9 wx
      clear hk hNk hDk
      obtain ⟨⟨d0, d1, d2⟩, _⟩ := blk3 RW.Nm
      go_wp2_with fail
      go_region_with (first | (go_at_call 39; refine (HPOW.out _).mono ?_; rintro e w4 ⟨v4, rfl, N4, hb4⟩; obtain ⟨V4, g4, p4, l4, c4, rfl⟩ := N4.parts; have R4 := RW.drew.next hb4; obtain ⟨⟨s0, s1, s2⟩, _⟩ := blk3 R4.Nm; obtain ⟨⟨_, _, _, _, _, _, s3⟩, _⟩ := blk7 ((hb4.block w.heap.size (by simp; omega)).trans XW)) | (go_at_call 37; refine (num_mul_any R4.nN N4 (by decide) (by decide) (by decide)).mono ?_; rintro e w5 ⟨v5, rfl, N5, hb5⟩; obtain ⟨V5, g5, p5, l5, c5, rfl⟩ := N5.parts; have R5 := R4.next hb5; obtain ⟨⟨t0, t1, t2⟩, t3, t4, t5⟩ := blk3 R5.Nm; obtain ⟨⟨_, _, _, _, _, _, t6⟩, _⟩ := blk7 ((hb5.block w.heap.size (by have := hb4.size; simp at this; omega)).trans ((hb4.block w.heap.size (by simp; omega)).trans XW))))
      all_goals go_wp2_with fail
      all_goals go_meet
      all_goals
        rw [← HNk.out] at N5
        have N6 := N5.tight (k := 60) (by have := HN9.out; simpa using this)
        rw [HDk.out]
        exact ⟨_, _, _, _, _, _, _, _, _, _, R5.setN N6⟩
    · obtain ⟨k, hk⟩ : ∃ k : Nat, -E = (k : Int) := ⟨(-E).toNat, by omega⟩
      have HEk : Hid (-E = (k : Int)) := hk
      have HEw : Hid (IntKind.i64.wrap (-E) = (k : Int)) := by show _ = _; rw [wr64 _ (by omega) (by omega)]; exact hk
      have hk9 : k ≤ 1000 := by omega
      have hDk : ((D : Nat) : Int) = (D0 : Int) * 2 ^ k := by rw [HDD.out, hk]; exact cast_pow D0 k
      have hNk : N = N0 := by rw [HNN.out, show E.toNat = 0 by omega]; simp
      have HNk : Hid (N = N0) := hNk
      have HDk : Hid (((D : Nat) : Int) = (D0 : Int) * 2 ^ k) := hDk
      clear hk hNk hDk
      obtain ⟨⟨d0, d1, d2⟩, _⟩ := blk3 RW.Dn
      go_wp2_with fail
      go_region_with (first | (go_at_call 39; (first | rw [HEw.out] | rw [HEk.out]); refine (num_power k hk9 _).mono ?_; rintro e w4 ⟨v4, rfl, N4, hb4⟩; obtain ⟨V4, g4, p4, l4, c4, rfl⟩ := N4.parts; have R4 := RW.drew.next hb4; obtain ⟨⟨s0, s1, s2⟩, _⟩ := blk3 R4.Dn) | (go_at_call 37; refine (num_mul_any R4.nD N4 (by decide) (by decide) (by decide)).mono ?_; rintro e w5 ⟨v5, rfl, N5, hb5⟩; obtain ⟨V5, g5, p5, l5, c5, rfl⟩ := N5.parts; have R5 := R4.next hb5; obtain ⟨⟨t0, t1, t2⟩, t3, t4, t5⟩ := blk3 R5.Dn))
      all_goals go_wp2_with fail
      all_goals go_meet
      all_goals
        rw [← HDk.out] at N5
        have N6 := N5.tight (k := 60) (by have := HD9.out; simpa using this)
        rw [HNk.out]
        exact ⟨_, _, _, _, _, _, _, _, _, _, R5.setD N6⟩
  case rest =>
    obtain ⟨V1, g1, p1, l1, c1, V2, g2, p2, l2, c2, RU0⟩ := hcut
    clear RW XW x6 lx SW LW
    obtain ⟨⟨f0, f1, f2⟩, _⟩ := blk3 RU0.F
    go_upto_region 8 with (go_at_call 39; refine (num_power 24 (by decide) _).mono ?_; rintro e w6 ⟨v6, rfl, N6, hb6⟩; (have hv6 : v6 = .agg #[.int .i64 16777216, .bool false, .slice none 0 0] := by have h := N6.small (by decide) (by decide); rw [h]; rfl); subst hv6)
    obtain ⟨U, hU⟩ : ∃ U, U = w6.alloc (.cells #[.int .i64 16777216, .bool false, .slice none 0 0] 50) := ⟨_, rfl⟩
    obtain ⟨t, ht⟩ : ∃ t, t = w6.heap.size := ⟨_, rfl⟩
    have RU : RC 24 (-149) 104 w U a N D V1 g1 p1 l1 c1 V2 g2 p2 l2 c2 := by rw [hU]; exact (RU0.next hb6).alloc _
    have TU : Three U t (.int .i64 16777216) (.bool false) (.slice none 0 0) := by show U.heap[_]? = _; rw [hU, ht]; exact heap_alloc_new _ _
    have LT : a + 1 < t := by rw [ht]; exact (RU0.next hb6).sz
    rw [← hU, ← ht]
    clear hU ht hb6 RU0 f0 f1 f2 N6
    obtain ⟨⟨f0, f1, f2⟩, _⟩ := blk3 RU.F
    obtain ⟨⟨a0, a1, a2⟩, _⟩ := blk3 RU.Nm
    obtain ⟨⟨q0, q1, q2⟩, _⟩ := blk3 RU.Dn
    have SU := RU.sz
    have LU := RU.lo
    go_cut [14] (fun kk wx => ∃ k : Int, kk = .int .i64 k ∧ k ≤ es ∧ -7000 ≤ k ∧ RC 24 (-149) 104 w wx a N D V1 g1 p1 l1 c1 V2 g2 p2 l2 c2 ∧ Three wx t (.int .i64 16777216) (.bool false) (.slice none 0 0))
    case first =>
      go_region_held3 (fun v => v.cell? ⟨a, 0, none⟩ = some (.int .i64 V1) ∧ v.cell? ⟨a, 1, none⟩ = some (.bool g1) ∧ v.cell? ⟨a, 2, none⟩ = some (.slice p1 l1 c1) ∧ v.cell? ⟨a + 1, 0, none⟩ = some (.int .i64 V2) ∧ v.cell? ⟨a + 1, 1, none⟩ = some (.bool g2) ∧ v.cell? ⟨a + 1, 2, none⟩ = some (.slice p2 l2 c2) ∧ v.cell? ⟨w.heap.size + 1, 0, none⟩ = some (.int .i64 24)) (first | with_reducible exact ⟨a0, a1, a2, q0, q1, q2, f0⟩ | with_reducible exact ⟨l3, l4, l5, l0, l1', l2', j0⟩ | with_reducible exact ⟨z0, z1, z2, z3, z4, z5, v0⟩ | (go_keep; done)) (first | (go_at_call 81; (with_reducible show Calls Tryd.prog 81 #[Value.agg #[Value.int IntKind.i64 V1, Value.bool g1, Value.slice p1 l1 c1]] _ _); refine (num_bits RU.drew.nN (by decide) (by decide) (by omega)).mono ?_; rintro e w7 ⟨β, rfl, bn1, bn2, bn3, hb7⟩; have R7 := RU.drew.next hb7; (have T7 := Three.next (w := U.drew) TU hb7); (obtain ⟨⟨j0, j1, j2⟩, _⟩ := blk3 R7.F); (obtain ⟨⟨l0, l1', l2'⟩, _⟩ := blk3 R7.Dn); (obtain ⟨⟨l3, l4, l5⟩, _⟩ := blk3 R7.Nm)) | (go_at_call 81; (with_reducible show Calls Tryd.prog 81 #[Value.agg #[Value.int IntKind.i64 V2, Value.bool g2, Value.slice p2 l2 c2]] _ _); refine (num_bits R7.nD (by decide) (by decide) (by omega)).mono ?_; rintro e w8 ⟨δ, rfl, bd1, bd2, bd3, hb8⟩; have R8 := R7.next hb8; have T8 := T7.next hb8; (obtain ⟨⟨v0, v1, v2⟩, _⟩ := blk3 R8.F); (obtain ⟨⟨z0, z1, z2⟩, _⟩ := blk3 R8.Nm); (obtain ⟨⟨z3, z4, z5⟩, _⟩ := blk3 R8.Dn)))
      all_goals go_wp2_with fail
      all_goals go_meet
      all_goals
        have h1 : 2 ^ β ≤ N := by have h := bn1; have e : ((2 : Int) ^ β) = ((2 ^ β : Nat) : Int) := by simp
                                  rw [e] at h; omega
        have h2 : D < 2 ^ (δ + 3) := by have h := bd2; have e : ((2 : Int) ^ (δ + 3)) = ((2 ^ (δ + 3) : Nat) : Int) := by simp
                                        rw [e] at h; omega
        have h3 := sc_start N D β δ 24 es h1 h2 HLT.out
        exact ⟨(β : Int) - (δ : Int) - 24 - 2, congrArg (Value.int IntKind.i64) (by rw [wr64 ((β : Int) - (δ : Int)) (by omega) (by omega), wr64 ((β : Int) - (δ : Int) - 24) (by omega) (by omega), wr64 ((β : Int) - (δ : Int) - 24 - 2) (by omega) (by omega)]), h3, by omega, R8, T8⟩
    case rest =>
      obtain ⟨k, rfl, ks, k7, RK, TK⟩ := hcut
      clear RU TU f0 f1 f2 a0 a1 a2 q0 q1 q2 SU LU
      go_upto_if 60 with fail
      go_cut [12] (fun ev wx => ∃ i : Int, ev = .int .i64 i ∧ (-149) ≤ i ∧ i ≤ es ∧ RC 24 (-149) 104 w wx a N D V1 g1 p1 l1 c1 V2 g2 p2 l2 c2 ∧ Three wx t (.int .i64 16777216) (.bool false) (.slice none 0 0))
      case first =>
        by_cases hk : (-149) < k
        · go_wp2_with fail
          go_meet
          exact ⟨k, rfl, by omega, ks, RK, TK⟩
        · go_wp2_with fail
          go_meet
          exact ⟨(-149), rfl, by omega, s0, RK, TK⟩
      case rest =>
        obtain ⟨i0, rfl, i0l, i0s, RI0, TI0⟩ := hcut
        clear RK TK ks k7
        go_wp2_with fail
        go_loopw [12] (fun e wx => ∃ i : Int, e = .int .i64 i ∧ (-149) ≤ i ∧ i ≤ es ∧ RC 24 (-149) 104 w wx a N D V1 g1 p1 l1 c1 V2 g2 p2 l2 c2 ∧ Three wx t (.int .i64 16777216) (.bool false) (.slice none 0 0)) (fun e _ => (es - intOf e).toNat)
        case atStart => exact ⟨i0, rfl, i0l, i0s, RI0, TI0⟩
        case round =>
          clear RI0 TI0 i0l i0s
          obtain ⟨i, rfl, hi0, hi1, RI, TI⟩ := hrel
          obtain ⟨⟨a0, a1, a2⟩, _⟩ := blk3 RI.Nm
          obtain ⟨⟨q0, q1, q2⟩, _⟩ := blk3 RI.Dn
          have SI := RI.sz
          have lt := TI.lt
          go_upto_region 12 with (go_at_call 82; refine (num_scaled RI.nN RI.nD i (by omega) (by omega)).mono ?_; rintro e w9 ⟨va, vb, rfl, NA, NB, hb9⟩; obtain ⟨V3, g3, p3, l3, c3, rfl⟩ := NA.parts; obtain ⟨V4, g4, p4, l4, c4, rfl⟩ := NB.parts)
          have R9 := RI.next hb9
          have T9 := TI.next hb9
          have t9 := T9.lt
          obtain ⟨Y, hY⟩ : ∃ Y, Y = (w9.alloc (.cells #[.int .i64 V3, .bool g3, .slice p3 l3 c3] 50)).alloc (.cells #[.int .i64 V4, .bool g4, .slice p4 l4 c4] 50) := ⟨_, rfl⟩
          obtain ⟨y, hy⟩ : ∃ y, y = w9.heap.size := ⟨_, rfl⟩
          have hBY : Below w9.heap.size w9 Y := by rw [hY]; exact (al _ _).trans ((al _ _).mono (by simp))
          have RY : RC 24 (-149) 104 w Y a N D V1 g1 p1 l1 c1 V2 g2 p2 l2 c2 := R9.next hBY
          have TY : Three Y t (.int .i64 16777216) (.bool false) (.slice none 0 0) := T9.next hBY
          have AY : Three Y y (.int .i64 V3) (.bool g3) (.slice p3 l3 c3) := by rw [hY, hy]; exact (three_alloc _ _ _ _).next (al _ _)
          have DY : Three Y (y + 1) (.int .i64 V4) (.bool g4) (.slice p4 l4 c4) := by show Y.heap[_]? = _; rw [hY, hy]; exact heap_alloc_at (by simp)
          have NAY := NA.next hBY
          have NBY := NB.next hBY
          have LYY : t < y := by omega
          rw [← hY, ← hy]
          clear hY hy hb9 R9 T9 t9 a0 a1 a2 q0 q1 q2 NA NB hBY RI TI SI lt
          obtain ⟨⟨b0, b1, b2⟩, _⟩ := blk3 AY
          obtain ⟨⟨b3, b4, b5⟩, _⟩ := blk3 DY
          obtain ⟨⟨o0, o1, o2⟩, _⟩ := blk3 TY
          by_cases hie : i < es
          · obtain ⟨C, hC⟩ : ∃ C, cmpZ ((sa N i : Nat) : Int) (16777216 * ((sb D i : Nat) : Int)) = C := ⟨_, rfl⟩
            have C0 : ¬ C < 0 := by have h := HGE.out i hi0 hie; rw [← hC]; unfold cmpZ; rw [if_neg (by omega)]; split <;> omega
            have CMP : Hid (cmpZ ((sa N i : Nat) : Int) (16777216 * ((sb D i : Nat) : Int)) = C) := hC
            clear hC
            go_region_held3 (fun v => v.cell? ⟨y, 0, none⟩ = some (.int .i64 V3) ∧ v.cell? ⟨y, 1, none⟩ = some (.bool g3) ∧ v.cell? ⟨y, 2, none⟩ = some (.slice p3 l3 c3) ∧ v.cell? ⟨y + 1, 0, none⟩ = some (.int .i64 V4) ∧ v.cell? ⟨y + 1, 1, none⟩ = some (.bool g4) ∧ v.cell? ⟨y + 1, 2, none⟩ = some (.slice p4 l4 c4) ∧ v.cell? ⟨t, 0, none⟩ = some (.int .i64 16777216) ∧ v.cell? ⟨t, 1, none⟩ = some (.bool false) ∧ v.cell? ⟨t, 2, none⟩ = some (.slice none 0 0)) (first | with_reducible exact ⟨b0, b1, b2, b3, b4, b5, o0, o1, o2⟩ | with_reducible exact ⟨j0, j1, j2, j3, j4, j5, j6, j7, j8⟩ | with_reducible exact ⟨k0, k1, k2, k3, k4, k5, k6, k7, k8⟩ | (go_keep; done)) (first | (go_at_call 37; refine (num_mul_any (w := Y.drew) (K := 3) (L := 200) (num_small Y.drew 3 16777216 (by decide) (by decide)) NBY.drew (by decide) (by decide) (by decide)).mono ?_; rintro e w10 ⟨v10, rfl, N10, hb10⟩; obtain ⟨V5, g5, p5, l5, c5, rfl⟩ := N10.parts; (have AY1 := Three.next (w := Y.drew) AY hb10); (have DY1 := Three.next (w := Y.drew) DY hb10); (have TY1 := Three.next (w := Y.drew) TY hb10); have NA1 := NAY.drew.next hb10; have R10 := RY.drew.next hb10; (obtain ⟨⟨j0, j1, j2⟩, _⟩ := blk3 AY1); (obtain ⟨⟨j3, j4, j5⟩, _⟩ := blk3 DY1); (obtain ⟨⟨j6, j7, j8⟩, _⟩ := blk3 TY1)) | (go_at_call 42; refine (num_cmp NA1 N10 (by decide) (by decide) (by omega) (by omega)).mono ?_; rw [CMP.out]; rintro e w11 ⟨rfl, hb11⟩; (have AY2 := AY1.next hb11); (have DY2 := DY1.next hb11); (have TY2 := TY1.next hb11); have R11 := R10.next hb11; (obtain ⟨⟨k0, k1, k2⟩, _⟩ := blk3 AY2); (obtain ⟨⟨k3, k4, k5⟩, _⟩ := blk3 DY2); (obtain ⟨⟨k6, k7, k8⟩, _⟩ := blk3 TY2)))
            go_wp2
            go_roundw
            case rel => exact ⟨i + 1, by first | rfl | go_num, by omega, by omega, R11, TY2⟩
            case measure => simp [intOf]; omega
          · obtain rfl : i = es := by omega
            obtain ⟨C, hC⟩ : ∃ C, cmpZ ((sa N i : Nat) : Int) (16777216 * ((sb D i : Nat) : Int)) = C := ⟨_, rfl⟩
            have C0 : C < 0 := by have h := HLT.out; rw [← hC]; unfold cmpZ; rw [if_pos (by omega)]; decide
            have CMP : Hid (cmpZ ((sa N i : Nat) : Int) (16777216 * ((sb D i : Nat) : Int)) = C) := hC
            clear hC
            go_region_held3 (fun v => v.cell? ⟨y, 0, none⟩ = some (.int .i64 V3) ∧ v.cell? ⟨y, 1, none⟩ = some (.bool g3) ∧ v.cell? ⟨y, 2, none⟩ = some (.slice p3 l3 c3) ∧ v.cell? ⟨y + 1, 0, none⟩ = some (.int .i64 V4) ∧ v.cell? ⟨y + 1, 1, none⟩ = some (.bool g4) ∧ v.cell? ⟨y + 1, 2, none⟩ = some (.slice p4 l4 c4) ∧ v.cell? ⟨t, 0, none⟩ = some (.int .i64 16777216) ∧ v.cell? ⟨t, 1, none⟩ = some (.bool false) ∧ v.cell? ⟨t, 2, none⟩ = some (.slice none 0 0)) (first | with_reducible exact ⟨b0, b1, b2, b3, b4, b5, o0, o1, o2⟩ | with_reducible exact ⟨j0, j1, j2, j3, j4, j5, j6, j7, j8⟩ | with_reducible exact ⟨k0, k1, k2, k3, k4, k5, k6, k7, k8⟩ | (go_keep; done)) (first | (go_at_call 37; refine (num_mul_any (w := Y.drew) (K := 3) (L := 200) (num_small Y.drew 3 16777216 (by decide) (by decide)) NBY.drew (by decide) (by decide) (by decide)).mono ?_; rintro e w10 ⟨v10, rfl, N10, hb10⟩; obtain ⟨V5, g5, p5, l5, c5, rfl⟩ := N10.parts; (have AY1 := Three.next (w := Y.drew) AY hb10); (have DY1 := Three.next (w := Y.drew) DY hb10); (have TY1 := Three.next (w := Y.drew) TY hb10); have NA1 := NAY.drew.next hb10; have R10 := RY.drew.next hb10; (obtain ⟨⟨j0, j1, j2⟩, _⟩ := blk3 AY1); (obtain ⟨⟨j3, j4, j5⟩, _⟩ := blk3 DY1); (obtain ⟨⟨j6, j7, j8⟩, _⟩ := blk3 TY1)) | (go_at_call 42; refine (num_cmp NA1 N10 (by decide) (by decide) (by omega) (by omega)).mono ?_; rw [CMP.out]; rintro e w11 ⟨rfl, hb11⟩; (have AY2 := AY1.next hb11); (have DY2 := DY1.next hb11); (have TY2 := TY1.next hb11); have R11 := R10.next hb11; (obtain ⟨⟨k0, k1, k2⟩, _⟩ := blk3 AY2); (obtain ⟨⟨k3, k4, k5⟩, _⟩ := blk3 DY2); (obtain ⟨⟨k6, k7, k8⟩, _⟩ := blk3 TY2)))
            clear AY DY TY RY NAY NBY b0 b1 b2 b3 b4 b5 o0 o1 o2 j0 j1 j2 j3 j4 j5 j6 j7 j8 k0 k1 k2 k3 k4 k5 k6 k7 k8 AY1 DY1 TY1 NA1 R10 AY2 DY2 TY2 hb10 hb11 N10
            obtain ⟨⟨a0, a1, a2⟩, _⟩ := blk3 R11.Nm
            obtain ⟨⟨q0, q1, q2⟩, _⟩ := blk3 R11.Dn
            go_upto_region 15 with (go_at_call 82; refine (num_scaled R11.nN R11.nD i (by omega) (by omega)).mono ?_; rintro e w12 ⟨va, vb, rfl, NA, NB, hb12⟩; obtain ⟨V6, g6, p6, l6, c6, rfl⟩ := NA.parts; obtain ⟨V7, g7, p7, l7, c7, rfl⟩ := NB.parts)
            have R12 := R11.next hb12
            have s12 := R12.sz
            obtain ⟨Z, hZ⟩ : ∃ Y, Y = (w12.alloc (.cells #[.int .i64 V6, .bool g6, .slice p6 l6 c6] 50)).alloc (.cells #[.int .i64 V7, .bool g7, .slice p7 l7 c7] 50) := ⟨_, rfl⟩
            obtain ⟨z, hz⟩ : ∃ y, y = w12.heap.size := ⟨_, rfl⟩
            have hBZ : Below w12.heap.size w12 Z := by rw [hZ]; exact (al _ _).trans ((al _ _).mono (by simp))
            have RZ : RC 24 (-149) 104 w Z a N D V1 g1 p1 l1 c1 V2 g2 p2 l2 c2 := R12.next hBZ
            have AZ : Three Z z (.int .i64 V6) (.bool g6) (.slice p6 l6 c6) := by rw [hZ, hz]; exact (three_alloc _ _ _ _).next (al _ _)
            have DZ : Three Z (z + 1) (.int .i64 V7) (.bool g7) (.slice p7 l7 c7) := by show Z.heap[_]? = _; rw [hZ, hz]; exact heap_alloc_at (by simp)
            have NAZ := NA.next hBZ
            have NBZ := NB.next hBZ
            rw [← hZ, ← hz]
            clear hZ hz hb12 R12 R11 NA NB hBZ a0 a1 a2 q0 q1 q2 s12
            obtain ⟨⟨b0, b1, b2⟩, _⟩ := blk3 AZ
            obtain ⟨⟨b3, b4, b5⟩, _⟩ := blk3 DZ
            have M1 : M < 16777216 := by
              rw [← HM.out]
              have h := HLT.out
              have : sa N i / sb D i < 16777216 := (Nat.div_lt_iff_lt_mul (sb_pos D i Dpp)).2 h
              omega
            have M0 : 0 ≤ M := by rw [← HM.out]; exact Int.natCast_nonneg _
            have sbp := sb_pos D i Dpp
            have sap := sa_pos N i Npp
            go_upto_region 17 with (go_at_call 66; refine (num_div NAZ NBZ (by decide) (by decide) (by decide) (by decide) (by omega) (by omega)).mono ?_; rintro e w13 ⟨vq, vr, rfl, NQ, NR, hb13⟩; (have hvq : vq = .agg #[.int .i64 M, .bool false, .slice none 0 0] := by (have h := NQ.small (by rw [← Int.natCast_ediv, HM.out]; omega) (by rw [← Int.natCast_ediv, HM.out]; omega)); rw [← Int.natCast_ediv, HM.out] at h; exact h); subst hvq; obtain ⟨V8, g8, p8, l8, c8, rfl⟩ := NR.parts)
            have R13 := RZ.next hb13
            have D13 := DZ.next hb13
            have d13 := D13.lt
            have NB13 := NBZ.next hb13
            obtain ⟨U, hU⟩ : ∃ Y, Y = (w13.alloc (.cells #[.int .i64 M, .bool false, .slice none 0 0] 50)).alloc (.cells #[.int .i64 V8, .bool g8, .slice p8 l8 c8] 50) := ⟨_, rfl⟩
            obtain ⟨u, hu⟩ : ∃ y, y = w13.heap.size + 1 := ⟨_, rfl⟩
            have hBU : Below w13.heap.size w13 U := by rw [hU]; exact (al _ _).trans ((al _ _).mono (by simp))
            have RU : RC 24 (-149) 104 w U a N D V1 g1 p1 l1 c1 V2 g2 p2 l2 c2 := R13.next hBU
            have DU := D13.next hBU
            have RRU : Three U u (.int .i64 V8) (.bool g8) (.slice p8 l8 c8) := by show U.heap[_]? = _; rw [hU, hu]; exact heap_alloc_at (by simp)
            have NRU := NR.next hBU
            have NBU := NB13.next hBU
            rw [← hU, ← hu]
            clear hU hu hb13 hBU R13 D13 d13 NB13 NQ NR RZ AZ DZ NAZ NBZ b0 b1 b2 b3 b4 b5
            rw [← Int.natCast_emod] at NRU
            obtain ⟨r, hr⟩ : ∃ r, sa N i % sb D i = r := ⟨_, rfl⟩
            obtain ⟨b, hb⟩ : ∃ b, sb D i = b := ⟨_, rfl⟩
            rw [hr] at NRU
            rw [hb] at NBU sbp
            have HLI : Hid (leftI r b = c) := by have h := HC.out; rw [hr, hb] at h; exact h
            have rlt : r < b := by rw [← hr, ← hb]; exact Nat.mod_lt _ (by omega)
            obtain ⟨h, hh⟩ : ∃ h, cmpZ ((r : Int) + (r : Int)) (b : Int) = h := ⟨_, rfl⟩
            have HH : Hid (cmpZ ((r : Int) + (r : Int)) (b : Int) = h) := hh
            clear hr hb hh
            obtain ⟨⟨b0, b1, b2⟩, _⟩ := blk3 RRU
            obtain ⟨⟨b3, b4, b5⟩, _⟩ := blk3 DU
            go_cut [22] (fun hv wx => hv = .int .i64 h ∧ RC 24 (-149) 104 w wx a N D V1 g1 p1 l1 c1 V2 g2 p2 l2 c2 ∧ Three wx u (.int .i64 V8) (.bool g8) (.slice p8 l8 c8) ∧ Num wx 202 (.agg #[.int .i64 V8, .bool g8, .slice p8 l8 c8]) (r : Int))
            case first =>
              go_region_held3 (fun v => v.cell? ⟨u, 0, none⟩ = some (.int .i64 V8) ∧ v.cell? ⟨u, 1, none⟩ = some (.bool g8) ∧ v.cell? ⟨u, 2, none⟩ = some (.slice p8 l8 c8) ∧ v.cell? ⟨z + 1, 0, none⟩ = some (.int .i64 V7) ∧ v.cell? ⟨z + 1, 1, none⟩ = some (.bool g7) ∧ v.cell? ⟨z + 1, 2, none⟩ = some (.slice p7 l7 c7)) (first | with_reducible exact ⟨b0, b1, b2, b3, b4, b5⟩ | with_reducible exact ⟨j0, j1, j2, j3, j4, j5⟩ | with_reducible exact ⟨k0, k1, k2, k3, k4, k5⟩ | (go_keep; done)) (first | (go_at_call 41; refine (num_add (w := U.drew) NRU.drew NRU.drew (by decide) (by decide) (by decide)).mono ?_; rintro e w14 ⟨v14, rfl, N14, hb14⟩; obtain ⟨V9, g9, p9, l9, c9, rfl⟩ := N14.parts; (have RR1 := Three.next (w := U.drew) RRU hb14); (have DD1 := Three.next (w := U.drew) DU hb14); have NR1 := NRU.drew.next hb14; have NB1 := NBU.drew.next hb14; have R14 := RU.drew.next hb14; (obtain ⟨⟨j0, j1, j2⟩, _⟩ := blk3 RR1); (obtain ⟨⟨j3, j4, j5⟩, _⟩ := blk3 DD1)) | (go_at_call 42; refine (num_cmp N14 NB1 (by decide) (by decide) (by omega) (by omega)).mono ?_; rw [HH.out]; rintro e w15 ⟨rfl, hb15⟩; have RR2 := RR1.next hb15; have DD2 := DD1.next hb15; have NR2 := NR1.next hb15; have R15 := R14.next hb15; (obtain ⟨⟨k0, k1, k2⟩, _⟩ := blk3 RR2); (obtain ⟨⟨k3, k4, k5⟩, _⟩ := blk3 DD2)))
              all_goals go_wp2_with fail
              all_goals go_meet
              all_goals exact ⟨rfl, R15, RR2, NR2⟩
            case rest =>
              obtain ⟨rfl, R15, T15, N15⟩ := hcut
              clear RU RRU NRU NBU DU b0 b1 b2 b3 b4 b5
              obtain ⟨⟨f0, f1, f2⟩, _⟩ := blk3 R15.F
              obtain ⟨⟨b0, b1, b2⟩, _⟩ := blk3 T15
              have HLIo := HLI.out
              have HHo := HH.out
              have r0 : (r : Int) < (b : Int) := by omega
              clear HLI HH HM HLT HGE HC
              rcases (by omega : mode = 0 ∨ mode = 1 ∨ mode = 2 ∨ mode = 3 ∨ mode = 4) with rfl | rfl | rfl | rfl | rfl
              · by_cases q1 : b < 2 * r
                · obtain rfl : h = 1 := by rw [← HHo]; unfold cmpZ; rw [if_neg (by omega), if_pos (by omega)]
                  have hgf : g = true := by rw [← HG.out, ← HLIo]; unfold leftI; rw [if_neg (by omega), if_neg (by omega), if_neg (by omega)]; rfl
                  clear HHo HLIo HG
                  have hKM : K' = M + 1 := by rw [HK'.out, hgf]; rfl
                  by_cases kT : M + 1 = 16777216
                  · have kK : K' = 16777216 := by omega
                    go_wp2_with (fail)
                    go_ret2
                    exact ⟨by first | rfl | (rw [hKM]; rfl) | (rw [if_pos kK, if_pos kK]; rfl) | (rw [if_pos kK]; rfl), R15.B⟩
                  · have kK : ¬ K' = 16777216 := by omega
                    go_wp2_with (fail)
                    go_ret2
                    exact ⟨by first | rfl | (rw [hKM]; rfl) | (rw [if_neg kK, if_neg kK, hKM]; rfl) | (rw [if_neg kK, hKM]; rfl), R15.B⟩
                · by_cases q2 : 2 * r = b
                  · obtain rfl : h = 0 := by rw [← HHo]; unfold cmpZ; rw [if_neg (by omega), if_neg (by omega)]
                    have hcc : c = 2 := by rw [← HLIo]; unfold leftI; rw [if_neg (by omega), if_neg (by omega), if_pos (by omega)]
                    by_cases q3 : M % 2 = 1
                    · have hgf : g = true := by rw [← HG.out, hcc]; unfold goesB; simp [q3]
                      have q4 : Int.tmod M 2 = 1 := by rw [Int.tmod_eq_emod_of_nonneg (by omega)]; exact q3
                      clear HHo HLIo HG hcc
                      have hKM : K' = M + 1 := by rw [HK'.out, hgf]; rfl
                      by_cases kT : M + 1 = 16777216
                      · have kK : K' = 16777216 := by omega
                        go_wp2_with (fail)
                        go_ret2
                        exact ⟨by first | rfl | (rw [hKM]; rfl) | (rw [if_pos kK, if_pos kK]; rfl) | (rw [if_pos kK]; rfl), R15.B⟩
                      · have kK : ¬ K' = 16777216 := by omega
                        go_wp2_with (fail)
                        go_ret2
                        exact ⟨by first | rfl | (rw [hKM]; rfl) | (rw [if_neg kK, if_neg kK, hKM]; rfl) | (rw [if_neg kK, hKM]; rfl), R15.B⟩
                    · have hgf : g = false := by rw [← HG.out, hcc]; unfold goesB; simp; omega
                      have q4 : ¬ Int.tmod M 2 = 1 := by rw [Int.tmod_eq_emod_of_nonneg (by omega)]; exact q3
                      clear HHo HLIo HG hcc
                      have hKM : K' = M := by rw [HK'.out, hgf]; rfl
                      have kT : ¬ K' = 16777216 := by omega
                      have kT2 : ¬ M = 16777216 := by omega
                      go_wp2_with (fail)
                      go_ret2
                      exact ⟨by first | rfl | (rw [hKM]; rfl) | (rw [if_neg kT, if_neg kT, hKM]; rfl) | (rw [if_neg kT, hKM]; rfl), R15.B⟩
                  · obtain rfl : h = -1 := by rw [← HHo]; unfold cmpZ; rw [if_pos (by omega)]
                    have hgf : g = false := by
                      rw [← HG.out, ← HLIo]; unfold leftI
                      split
                      · rfl
                      · rw [if_pos (by omega)]; rfl
                    clear HHo HLIo HG
                    have hKM : K' = M := by rw [HK'.out, hgf]; rfl
                    have kT : ¬ K' = 16777216 := by omega
                    have kT2 : ¬ M = 16777216 := by omega
                    go_wp2_with (fail)
                    go_ret2
                    exact ⟨by first | rfl | (rw [hKM]; rfl) | (rw [if_neg kT, if_neg kT, hKM]; rfl) | (rw [if_neg kT, hKM]; rfl), R15.B⟩
              · by_cases q1 : b ≤ 2 * r
                · have h0 : 0 ≤ h := by rw [← HHo]; unfold cmpZ; rw [if_neg (by omega)]; split <;> omega
                  have hgf : g = true := by
                    rw [← HG.out, ← HLIo]; unfold leftI
                    rw [if_neg (by omega), if_neg (by omega)]
                    split <;> rfl
                  clear HHo HLIo HG
                  have hKM : K' = M + 1 := by rw [HK'.out, hgf]; rfl
                  by_cases kT : M + 1 = 16777216
                  · have kK : K' = 16777216 := by omega
                    go_wp2_with (fail)
                    go_ret2
                    exact ⟨by first | rfl | (rw [hKM]; rfl) | (rw [if_pos kK, if_pos kK]; rfl) | (rw [if_pos kK]; rfl), R15.B⟩
                  · have kK : ¬ K' = 16777216 := by omega
                    go_wp2_with (fail)
                    go_ret2
                    exact ⟨by first | rfl | (rw [hKM]; rfl) | (rw [if_neg kK, if_neg kK, hKM]; rfl) | (rw [if_neg kK, hKM]; rfl), R15.B⟩
                · have h0 : ¬ 0 ≤ h := by rw [← HHo]; unfold cmpZ; rw [if_pos (by omega)]; decide
                  have hgf : g = false := by
                    rw [← HG.out, ← HLIo]; unfold leftI
                    split
                    · rfl
                    · rw [if_pos (by omega)]; rfl
                  clear HHo HLIo HG
                  have hKM : K' = M := by rw [HK'.out, hgf]; rfl
                  have kT : ¬ K' = 16777216 := by omega
                  have kT2 : ¬ M = 16777216 := by omega
                  go_wp2_with (fail)
                  go_ret2
                  exact ⟨by first | rfl | (rw [hKM]; rfl) | (rw [if_neg kT, if_neg kT, hKM]; rfl) | (rw [if_neg kT, hKM]; rfl), R15.B⟩
              · have hgf : g = false := by rw [← HG.out]; rfl
                clear HHo HLIo HG
                have hKM : K' = M := by rw [HK'.out, hgf]; rfl
                have kT : ¬ K' = 16777216 := by omega
                have kT2 : ¬ M = 16777216 := by omega
                go_wp2_with (fail)
                go_ret2
                exact ⟨by first | rfl | (rw [hKM]; rfl) | (rw [if_neg kT, if_neg kT, hKM]; rfl) | (rw [if_neg kT, hKM]; rfl), R15.B⟩
              · cases neg
                · by_cases q1 : r = 0
                  · have HZ : Hid (decide ((r : Int) = 0) = true) := by show _ = _; simp [q1]
                    have hgf : g = false := by rw [← HG.out, ← HLIo]; unfold leftI; rw [if_pos q1]; rfl
                    clear HHo HLIo HG
                    have hKM : K' = M := by rw [HK'.out, hgf]; rfl
                    have kT : ¬ K' = 16777216 := by omega
                    have kT2 : ¬ M = 16777216 := by omega
                    go_wp2_with (go_at_call 34; refine (num_zero N15).mono ?_; rw [HZ.out]; rintro e w16 ⟨rfl, hb16⟩; obtain ⟨⟨e0', e1', e2'⟩, _⟩ := blk3 (R15.next hb16).F)
                    go_ret2
                    exact ⟨by first | rfl | (rw [hKM]; rfl) | (rw [if_neg kT, if_neg kT, hKM]; rfl) | (rw [if_neg kT, hKM]; rfl), (R15.next hb16).B⟩
                  · have HZ : Hid (decide ((r : Int) = 0) = false) := by show _ = _; simp [q1]
                    have hgf : g = true := by
                      rw [← HG.out, ← HLIo]; unfold leftI; rw [if_neg q1]
                      split
                      · rfl
                      · split <;> rfl
                    clear HHo HLIo HG
                    have hKM : K' = M + 1 := by rw [HK'.out, hgf]; rfl
                    by_cases kT : M + 1 = 16777216
                    · have kK : K' = 16777216 := by omega
                      go_wp2_with (go_at_call 34; refine (num_zero N15).mono ?_; rw [HZ.out]; rintro e w16 ⟨rfl, hb16⟩; obtain ⟨⟨e0', e1', e2'⟩, _⟩ := blk3 (R15.next hb16).F)
                      go_ret2
                      exact ⟨by first | rfl | (rw [hKM]; rfl) | (rw [if_pos kK, if_pos kK]; rfl) | (rw [if_pos kK]; rfl), (R15.next hb16).B⟩
                    · have kK : ¬ K' = 16777216 := by omega
                      go_wp2_with (go_at_call 34; refine (num_zero N15).mono ?_; rw [HZ.out]; rintro e w16 ⟨rfl, hb16⟩; obtain ⟨⟨e0', e1', e2'⟩, _⟩ := blk3 (R15.next hb16).F)
                      go_ret2
                      exact ⟨by first | rfl | (rw [hKM]; rfl) | (rw [if_neg kK, if_neg kK, hKM]; rfl) | (rw [if_neg kK, hKM]; rfl), (R15.next hb16).B⟩
                · have hgf : g = false := by rw [← HG.out]; unfold goesB; simp
                  clear HHo HLIo HG
                  have hKM : K' = M := by rw [HK'.out, hgf]; rfl
                  have kT : ¬ K' = 16777216 := by omega
                  have kT2 : ¬ M = 16777216 := by omega
                  go_wp2_with (fail)
                  go_ret2
                  exact ⟨by first | rfl | (rw [hKM]; rfl) | (rw [if_neg kT, if_neg kT, hKM]; rfl) | (rw [if_neg kT, hKM]; rfl), R15.B⟩
              · cases neg
                · have hgf : g = false := by rw [← HG.out]; unfold goesB; simp
                  clear HHo HLIo HG
                  have hKM : K' = M := by rw [HK'.out, hgf]; rfl
                  have kT : ¬ K' = 16777216 := by omega
                  have kT2 : ¬ M = 16777216 := by omega
                  go_wp2_with (fail)
                  go_ret2
                  exact ⟨by first | rfl | (rw [hKM]; rfl) | (rw [if_neg kT, if_neg kT, hKM]; rfl) | (rw [if_neg kT, hKM]; rfl), R15.B⟩
                · by_cases q1 : r = 0
                  · have HZ : Hid (decide ((r : Int) = 0) = true) := by show _ = _; simp [q1]
                    have hgf : g = false := by rw [← HG.out, ← HLIo]; unfold leftI; rw [if_pos q1]; rfl
                    clear HHo HLIo HG
                    have hKM : K' = M := by rw [HK'.out, hgf]; rfl
                    have kT : ¬ K' = 16777216 := by omega
                    have kT2 : ¬ M = 16777216 := by omega
                    go_wp2_with (go_at_call 34; refine (num_zero N15).mono ?_; rw [HZ.out]; rintro e w16 ⟨rfl, hb16⟩; obtain ⟨⟨e0', e1', e2'⟩, _⟩ := blk3 (R15.next hb16).F)
                    go_ret2
                    exact ⟨by first | rfl | (rw [hKM]; rfl) | (rw [if_neg kT, if_neg kT, hKM]; rfl) | (rw [if_neg kT, hKM]; rfl), (R15.next hb16).B⟩
                  · have HZ : Hid (decide ((r : Int) = 0) = false) := by show _ = _; simp [q1]
                    have hgf : g = true := by
                      rw [← HG.out, ← HLIo]; unfold leftI; rw [if_neg q1]
                      split
                      · rfl
                      · split <;> rfl
                    clear HHo HLIo HG
                    have hKM : K' = M + 1 := by rw [HK'.out, hgf]; rfl
                    by_cases kT : M + 1 = 16777216
                    · have kK : K' = 16777216 := by omega
                      go_wp2_with (go_at_call 34; refine (num_zero N15).mono ?_; rw [HZ.out]; rintro e w16 ⟨rfl, hb16⟩; obtain ⟨⟨e0', e1', e2'⟩, _⟩ := blk3 (R15.next hb16).F)
                      go_ret2
                      exact ⟨by first | rfl | (rw [hKM]; rfl) | (rw [if_pos kK, if_pos kK]; rfl) | (rw [if_pos kK]; rfl), (R15.next hb16).B⟩
                    · have kK : ¬ K' = 16777216 := by omega
                      go_wp2_with (go_at_call 34; refine (num_zero N15).mono ?_; rw [HZ.out]; rintro e w16 ⟨rfl, hb16⟩; obtain ⟨⟨e0', e1', e2'⟩, _⟩ := blk3 (R15.next hb16).F)
                      go_ret2
                      exact ⟨by first | rfl | (rw [hKM]; rfl) | (rw [if_neg kK, if_neg kK, hKM]; rfl) | (rw [if_neg kK, hKM]; rfl), (R15.next hb16).B⟩

end Go.Proofs.YtoloenkcfpfgcaaDoor
