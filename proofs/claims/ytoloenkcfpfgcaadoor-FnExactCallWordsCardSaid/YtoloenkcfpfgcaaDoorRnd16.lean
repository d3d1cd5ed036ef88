/- Contracts of the model's rounding where all numbers are small and nothing is left over: a float of 32 bits from a float of 16 bits. -/
import Derived.Test.YtoloenkcfpfgcaaDoorScaled
import Derived.Deep.DeepCutAuto
namespace Go.Proofs.YtoloenkcfpfgcaaDoor
open Go.ChangeShapes Go.WideShapes Go.ChangeAt Go.RowKit

theorem blk7 {w : World} {b : Nat} {x0 x1 x2 x3 x4 x5 x6 : Value} {t : TypeId} (h : w.heap[b]? = some (.cells #[x0, x1, x2, x3, x4, x5, x6] t (0, 0))) :
    (w.cell? ⟨b, 0, none⟩ = some x0 ∧ w.cell? ⟨b, 1, none⟩ = some x1 ∧ w.cell? ⟨b, 2, none⟩ = some x2 ∧ w.cell? ⟨b, 3, none⟩ = some x3 ∧ w.cell? ⟨b, 4, none⟩ = some x4 ∧ w.cell? ⟨b, 5, none⟩ = some x5 ∧ w.cell? ⟨b, 6, none⟩ = some x6) ∧
    (w.frozen? ⟨b, 0, none⟩ = false ∧ w.frozen? ⟨b, 1, none⟩ = false ∧ w.frozen? ⟨b, 2, none⟩ = false ∧ w.frozen? ⟨b, 3, none⟩ = false ∧ w.frozen? ⟨b, 4, none⟩ = false ∧ w.frozen? ⟨b, 5, none⟩ = false ∧ w.frozen? ⟨b, 6, none⟩ = false) := by
  refine ⟨⟨?_, ?_, ?_, ?_, ?_, ?_, ?_⟩, ?_, ?_, ?_, ?_, ?_, ?_, ?_⟩ <;> simp [World.cell?, World.frozen?, h]

set_option maxHeartbeats 1000000 in
theorem zExact (m E : Int) (h0 : -1000000000000000000 < m) (h1 : m < 1000000000000000000) (w : World) :
    Calls Tryd.prog 32 #[.int .i64 m, .int .i64 E] w fun e w' => e = .returned (.agg #[.int .i64 m, .bool false, .slice none 0 0, .int .i64 1, .bool false, .slice none 0 0, .int .i64 E]) ∧ Below w.heap.size w w' := by
  go_enter Tryd.func32, Tryd.ntmps32
  go_wp2_with (first | (go_at_call 38; (with_reducible show Calls Tryd.prog 38 #[Value.int IntKind.i64 m] _ _); refine (zSmall m h0 h1 _).mono ?_; rintro e w1 ⟨rfl, hb1⟩; have hz1 := hb1.size; (try simp at hz1)) | (go_at_call 38; (with_reducible show Calls Tryd.prog 38 #[Value.int IntKind.i64 1] _ _); refine (zSmall 1 (by decide) (by decide) _).mono ?_; rintro e w2 ⟨rfl, hb2⟩; have hz2 := hb2.size; obtain ⟨⟨x0, x1, x2, x3, x4, x5, x6⟩, y0, y1, y2, y3, y4, y5, y6⟩ := blk7 ((hb2.block _ (by omega)).trans ((hb1.block _ (by simp)).trans (heap_alloc_new _ _)))))
  exact bodyPost_ret (v := .agg #[.int .i64 m, .bool false, .slice none 0 0, .int .i64 1, .bool false, .slice none 0 0, .int .i64 E]) (by simp [results, Tryd.results32, go_sem, x0, x1, x2, x3, x4, x5, x6]) rfl ⟨rfl, by repeat (first | (with_reducible refine Below.setCell ?_ (by first | omega | (simp; try omega)) _) | (with_reducible refine Below.alloc ?_ (by first | omega | (simp; try omega)) _) | (with_reducible apply Below.drew) | (with_reducible apply below_drewN) | (with_reducible exact Below.refl _ _) | (with_reducible refine Below.trans ?_ (hb2.mono (by first | omega | (simp; try omega)))) | (with_reducible refine Below.trans ?_ (hb1.mono (by first | omega | (simp; try omega)))))⟩
theorem zWord (w : World) :
    Calls Tryd.prog 36 #[] w fun e w' => e = .returned (.agg #[.int .i64 24, .int .i64 (-149), .int .i64 104]) ∧ Below w.heap.size w w' := by
  go_enter Tryd.func36, Tryd.ntmps36
  go_wp2
  exact bodyPost_ret (v := .agg #[.int .i64 24, .int .i64 (-149), .int .i64 104]) (by simp [results, Tryd.results36, go_sem]) rfl ⟨rfl, (Below.refl _ _).alloc (Nat.le_refl _) _⟩

/-- What the model's rounding holds in its own memory: the form, the numerator, the denominator. -/
structure RCtx (w v : World) (a : Nat) (N D : Int) : Prop where
  F : v.heap[w.heap.size + 1]? = some (.cells #[.int .i64 24, .int .i64 (-149), .int .i64 104] 58 (0, 0))
  Nm : v.heap[a]? = some (.cells #[.int .i64 N, .bool false, .slice none 0 0] 50 (0, 0))
  Dn : v.heap[a + 1]? = some (.cells #[.int .i64 D, .bool false, .slice none 0 0] 50 (0, 0))
  B : Below w.heap.size w v
  lo : w.heap.size + 1 < a
theorem RCtx.sz {w v : World} {a : Nat} {N D : Int} (h : RCtx w v a N D) : a + 1 < v.heap.size := lt_of_block h.Dn
theorem RCtx.next {w v v' : World} {a : Nat} {N D : Int} (h : RCtx w v a N D) (b : Below v.heap.size v v') : RCtx w v' a N D := by
  have s := h.sz
  have l := h.lo
  exact ⟨(b.block _ (by omega)).trans h.F, (b.block _ (by omega)).trans h.Nm, (b.block _ (by omega)).trans h.Dn, h.B.trans (b.mono (by omega)), l⟩

theorem RCtx.drew {w v v' : World} {a : Nat} {N D : Int} (h : RCtx w v a N D) (b : Below v.drew.heap.size v.drew v') : RCtx w v' a N D :=
  h.next ⟨b.os, b.tape, b.output, b.size, b.block⟩
theorem RCtx.setD {w v : World} {a : Nat} {N D : Int} (h : RCtx w v a N D) (D' : Int) :
    RCtx w (((v.setCell ⟨a + 1, 0, none⟩ (.int .i64 D')).setCell ⟨a + 1, 1, none⟩ (.bool false)).setCell ⟨a + 1, 2, none⟩ (.slice none 0 0)) a N D' := by
  have l := h.lo
  exact ⟨(set3_ne (by omega)).trans h.F, (set3_ne (by omega)).trans h.Nm, set3 h.Dn, ((h.B.setCell (by simp; omega) _).setCell (by simp; omega) _).setCell (by simp; omega) _, l⟩
theorem RCtx.alloc {w v : World} {a : Nat} {N D : Int} (h : RCtx w v a N D) (o : Obj) : RCtx w (v.alloc o) a N D :=
  h.next ((Below.refl _ _).alloc (Nat.le_refl _) o)

set_option maxRecDepth 100000 in
set_option maxHeartbeats 4000000 in
theorem zRound (n : Int) (N D : Nat) (hN : (N : Int) = n ∨ (N : Int) = -n) (N0 : 0 < N) (N1 : N < 1000000000) (D0 : 0 < D) (D1 : D < 1000000000) (E : Int) (e0 : E < 0) (e1 : -50 ≤ E) (hD : (2 : Int) ^ (-E).toNat = D)
    (neg : Bool) (w : World) (k es M : Int) (hk : (Nat.log2 N : Int) - (Nat.log2 D : Int) - 24 - 2 = k) (k0 : -50 ≤ k) (k1 : k ≤ es) (es1 : es < 0)
    (hge : ∀ i, k ≤ i → i < es → 16777216 * (D : Int) ≤ N * 2 ^ (-i).toNat) (hlt : (N : Int) * 2 ^ (-es).toNat < 16777216 * D) (hbd : ∀ i, k ≤ i → i ≤ es → (N : Int) * 2 ^ (-i).toNat < 1000000000000000000)
    (hM : (N : Int) * 2 ^ (-es).toNat / D = M) (hr : (N : Int) * 2 ^ (-es).toNat % D = 0) (m0 : 0 ≤ M) (m1 : M < 16777216) :
    Calls Tryd.prog 59 #[.agg #[.int .i64 n, .bool false, .slice none 0 0, .int .i64 1, .bool false, .slice none 0 0, .int .i64 E], .agg #[.int .i64 24, .int .i64 (-149), .int .i64 104], .int .i64 0, .bool neg] w fun e w' => e = .returned (.tuple #[.int .i64 M, .int .i64 es]) ∧ Below w.heap.size w w' := by
  have hneg : IntKind.i64.wrap (-E) = -E := wr64 _ (by omega) (by omega)
  have HGE : Hid (∀ i, k ≤ i → i < es → 16777216 * (D : Int) ≤ N * 2 ^ (-i).toNat) := hge
  have HBD : Hid (∀ i, k ≤ i → i ≤ es → (N : Int) * 2 ^ (-i).toNat < 1000000000000000000) := hbd
  have HLT : Hid ((N : Int) * 2 ^ (-es).toNat < 16777216 * D) := hlt
  have HM : Hid ((N : Int) * 2 ^ (-es).toNat / D = M) := hM
  have HR : Hid ((N : Int) * 2 ^ (-es).toNat % D = 0) := hr
  have HK : Hid ((Nat.log2 N : Int) - (Nat.log2 D : Int) - 24 - 2 = k) := hk
  have HD : Hid ((2 : Int) ^ (-E).toNat = D) := hD
  clear hge hbd hlt hM hr hk hD
  go_enter Tryd.func59, Tryd.ntmps59
  go_wp2_with (first | (go_at_call 63; refine (zLimbs1 n N hN (by omega) (by omega) _).mono ?_; rintro e w1 ⟨b, rfl, hcl, hbl, hb1⟩; have hz1 := hb1.size; (try simp at hz1)) | (go_at_call 64; refine (zMake1 N (by omega) (by omega) b _ hcl hbl).mono ?_; rintro e w2 ⟨rfl, hb2⟩; have hz2 := hb2.size; (have X0 := (hb2.block w.heap.size (by omega)).trans ((hb1.block w.heap.size (by simp; omega)).trans ((Below.heap_alloc _ _ _ (by simp)).trans (heap_alloc_new _ _)))); (have F0 := (hb2.block (w.heap.size + 1) (by omega)).trans ((hb1.block (w.heap.size + 1) (by simp)).trans (heap_alloc_at (by simp)))); (have hbw2 : Below w.heap.size w w2 := by repeat (first | (with_reducible refine Below.setCell ?_ (by first | omega | (simp; try omega)) _) | (with_reducible refine Below.alloc ?_ (by first | omega | (simp; try omega)) _) | (with_reducible apply Below.drew) | (with_reducible apply below_drewN) | (with_reducible exact Below.refl _ _) | (with_reducible refine Below.trans ?_ (hb2.mono (by first | omega | (simp; try omega)))) | (with_reducible refine Below.trans ?_ (hb1.mono (by first | omega | (simp; try omega)))))); (obtain ⟨⟨x0, x1, x2, x3, x4, x5, x6⟩, y0, y1, y2, y3, y4, y5, y6⟩ := blk7 X0); (have hne1 : w.heap.size < w2.heap.size := by omega); (have hne2 : w.heap.size + 1 < w2.heap.size := by omega)))
  obtain ⟨W, hW⟩ : ∃ W, W = (w2.alloc (.cells #[.int .i64 N, .bool false, .slice none 0 0] 50)).alloc (.cells #[.int .i64 1, .bool false, .slice none 0 0] 50) := ⟨_, rfl⟩
  obtain ⟨a, ha⟩ : ∃ a, a = w2.heap.size := ⟨_, rfl⟩
  have XW : W.heap[w.heap.size]? = some (.cells #[.int .i64 n, .bool false, .slice none 0 0, .int .i64 1, .bool false, .slice none 0 0, .int .i64 E] 52 (0, 0)) := by rw [hW, Below.heap_alloc _ _ _ (by simp; omega), Below.heap_alloc _ _ _ (by omega)]; exact X0
  have RW : RCtx w W a N 1 := ⟨by rw [hW, Below.heap_alloc _ _ _ (by simp; omega), Below.heap_alloc _ _ _ (by omega)]; exact F0, by rw [hW, ha, Below.heap_alloc _ _ _ (by simp)]; exact heap_alloc_new _ _, by rw [hW, ha]; exact heap_alloc_at (by simp), by rw [hW]; repeat (first | (with_reducible refine Below.setCell ?_ (by first | omega | (simp; try omega)) _) | (with_reducible refine Below.alloc ?_ (by first | omega | (simp; try omega)) _) | (with_reducible apply Below.drew) | (with_reducible apply below_drewN) | (with_reducible exact Below.refl _ _) | (with_reducible exact hbw2)), by omega⟩
  rw [← hW, ← ha]
  clear hW x0 x1 x2 x3 x4 x5 x6 y0 y1 y2 y3 y4 y5 y6 hne1 hne2 hz1 hz2 X0 F0 hbw2 hb1 hb2 hcl hbl ha
  obtain ⟨⟨_, _, _, _, _, _, x6⟩, _⟩ := blk7 XW
  obtain ⟨⟨d0, d1, d2⟩, _⟩ := blk3 RW.Dn
  have SW := RW.sz
  have LW := RW.lo
  go_cut [] (fun wx => RCtx w wx a N D)
  case first =>
    go_region_with (first | (go_at_call 39; (try rw [hneg]); refine (zPower _ (by omega) (by omega) _).mono ?_; rw [HD.out]; rintro e w4 ⟨rfl, hb4⟩; have hz4 := hb4.size; (try simp at hz4); obtain ⟨⟨s0, s1, s2⟩, _⟩ := blk3 ((hb4.block (a + 1) (by simp; omega)).trans RW.Dn)) | (go_at_call 37; refine (zMul _ _ (by omega) (by omega) (by omega) (by omega) (by omega) (by omega) _).mono ?_; rintro e w5 ⟨rfl, hb5⟩; have hz5 := hb5.size; have D5 := (hb5.block (a + 1) (by omega)).trans ((hb4.block (a + 1) (by simp; omega)).trans RW.Dn); obtain ⟨⟨t0, t1, t2⟩, t3, t4, t5⟩ := blk3 D5))
    all_goals go_wp2_with fail
    all_goals go_meet
    all_goals exact ((RW.drew hb4).next hb5).setD D
  case rest =>
    clear RW XW x6 d0 d1 d2 SW LW
    obtain ⟨⟨f0, f1, f2⟩, _⟩ := blk3 hcut.F
    go_wp2_with (go_at_call 39; refine (zPower 24 (by decide) (by decide) _).mono ?_; rintro e w6 ⟨rfl, hb6⟩; have hz6 := hb6.size)
    obtain ⟨U, hU⟩ : ∃ U, U = w6.alloc (.cells #[.int .i64 16777216, .bool false, .slice none 0 0] 50) := ⟨_, rfl⟩
    obtain ⟨t, ht⟩ : ∃ t, t = w6.heap.size := ⟨_, rfl⟩
    have RU : RCtx w U a N D := by rw [hU]; exact (hcut.next hb6).alloc _
    have TU : U.heap[t]? = some (.cells #[.int .i64 16777216, .bool false, .slice none 0 0] 50 (0, 0)) := by rw [hU, ht]; exact heap_alloc_new _ _
    have LT : a + 1 < t := by rw [ht]; exact (hcut.next hb6).sz
    rw [← hU, ← ht]
    clear hU ht hb6 hz6 hcut f0 f1 f2
    obtain ⟨⟨f0, f1, f2⟩, _⟩ := blk3 RU.F
    obtain ⟨⟨p0, p1, p2⟩, _⟩ := blk3 RU.Nm
    obtain ⟨⟨q0, q1, q2⟩, _⟩ := blk3 RU.Dn
    have SU := RU.sz
    have LU := RU.lo
    go_cut [14] (fun kk wx => kk = .int .i64 k ∧ RCtx w wx a N D ∧ wx.heap[t]? = some (.cells #[.int .i64 16777216, .bool false, .slice none 0 0] 50 (0, 0)))
    case first =>
      go_region_held3 (fun v => v.cell? ⟨a, 0, none⟩ = some (.int .i64 (N : Int)) ∧ v.cell? ⟨a, 1, none⟩ = some (.bool false) ∧ v.cell? ⟨a, 2, none⟩ = some (.slice none 0 0) ∧ v.cell? ⟨a + 1, 0, none⟩ = some (.int .i64 (D : Int)) ∧ v.cell? ⟨a + 1, 1, none⟩ = some (.bool false) ∧ v.cell? ⟨a + 1, 2, none⟩ = some (.slice none 0 0) ∧ v.cell? ⟨w.heap.size + 1, 0, none⟩ = some (.int .i64 24)) (first | with_reducible exact ⟨p0, p1, p2, q0, q1, q2, f0⟩ | with_reducible exact ⟨l3, l4, l5, l0, l1, l2, j0⟩ | with_reducible exact ⟨z0, z1, z2, z3, z4, z5, v0⟩ | (go_keep; done)) (first | (go_at_call 81; (with_reducible show Calls Tryd.prog 81 #[Value.agg #[Value.int IntKind.i64 (N : Int), Value.bool false, Value.slice none 0 0]] _ _); refine (zBits1 N N0 N1 _).mono ?_; rintro e w7 ⟨rfl, hb7⟩; (have R7 : RCtx w w7 a N D := RU.drew hb7); (have T7 : w7.heap[t]? = some (.cells #[.int .i64 16777216, .bool false, .slice none 0 0] 50 (0, 0)) := (hb7.block _ (lt_of_block TU)).trans TU); (obtain ⟨⟨j0, j1, j2⟩, _⟩ := blk3 R7.F); (obtain ⟨⟨l0, l1, l2⟩, _⟩ := blk3 R7.Dn); (obtain ⟨⟨l3, l4, l5⟩, _⟩ := blk3 R7.Nm)) | (go_at_call 81; (with_reducible show Calls Tryd.prog 81 #[Value.agg #[Value.int IntKind.i64 (D : Int), Value.bool false, Value.slice none 0 0]] _ _); refine (zBits1 D D0 D1 _).mono ?_; rintro e w8 ⟨rfl, hb8⟩; (have R8 : RCtx w w8 a N D := R7.next hb8); (have T8 : w8.heap[t]? = some (.cells #[.int .i64 16777216, .bool false, .slice none 0 0] 50 (0, 0)) := (hb8.block _ (lt_of_block T7)).trans T7); (obtain ⟨⟨v0, v1, v2⟩, _⟩ := blk3 R8.F); (obtain ⟨⟨z0, z1, z2⟩, _⟩ := blk3 R8.Nm); (obtain ⟨⟨z3, z4, z5⟩, _⟩ := blk3 R8.Dn)))
      all_goals go_wp2_with fail
      all_goals go_meet
      all_goals exact ⟨congrArg (Value.int IntKind.i64) (by have b1 := log_lt N N1; have b2 := log_lt D D1; rw [wr64 ((Nat.log2 N : Int) - (Nat.log2 D : Int)) (by omega) (by omega), wr64 ((Nat.log2 N : Int) - (Nat.log2 D : Int) - 24) (by omega) (by omega), wr64 ((Nat.log2 N : Int) - (Nat.log2 D : Int) - 24 - 2) (by omega) (by omega)]; exact HK.out), R8, T8⟩
    case rest =>
      obtain ⟨rfl, RK, TK⟩ := hcut
      clear RU TU f0 f1 f2 p0 p1 p2 q0 q1 q2 SU LU
      have hkg : -149 < k := by omega
      go_wp2
      go_loopw [12] (fun e wx => ∃ i : Int, e = .int .i64 i ∧ k ≤ i ∧ i ≤ es ∧ RCtx w wx a N D ∧ wx.heap[t]? = some (.cells #[.int .i64 16777216, .bool false, .slice none 0 0] 50 (0, 0))) (fun e _ => (es - intOf e).toNat)
      case atStart => exact ⟨k, rfl, Int.le_refl _, k1, RK, TK⟩
      case round =>
        obtain ⟨i, rfl, hi0, hi1, RI, TI⟩ := hrel
        have hp := pow_bd (-i).toNat 50 (by omega)
        have hbd := HBD.out i hi0 hi1
        obtain ⟨P, hP⟩ : ∃ P, (2 : Int) ^ (-i).toNat = P := ⟨_, rfl⟩
        obtain ⟨A, hA⟩ : ∃ A, (N : Int) * P = A := ⟨_, rfl⟩
        rw [hP] at hp hbd
        rw [hA] at hbd
        have hA0 : 0 ≤ A := by rw [← hA]; exact Int.mul_nonneg (by omega) (by omega)
        have HA : Hid ((N : Int) * P = A) := hA
        have HP : Hid ((2 : Int) ^ (-i).toNat = P) := hP
        obtain ⟨⟨p0, p1, p2⟩, _⟩ := blk3 RI.Nm
        obtain ⟨⟨q0, q1, q2⟩, _⟩ := blk3 RI.Dn
        have SI := RI.sz
        have sc : ∀ v : World, Calls Tryd.prog 82 #[.agg #[.int .i64 (N : Int), .bool false, .slice none 0 0], .agg #[.int .i64 (D : Int), .bool false, .slice none 0 0], .int .i64 i] v fun r w' => r = .returned (.tuple #[.agg #[.int .i64 A, .bool false, .slice none 0 0], .agg #[.int .i64 (D : Int), .bool false, .slice none 0 0]]) ∧ Below v.heap.size v w' := by
          intro v
          have h := zScaled N D i P (by omega) (by omega) hP (by omega) hp.2 (by omega) (by omega) (by rw [hA]; omega) (by rw [hA]; omega) v
          rw [hA] at h
          exact h
        clear hA hP
        go_wp2_with (go_at_call 82; refine (sc _).mono ?_; rintro e w9 ⟨rfl, hb9⟩)
        have T9 := (hb9.block t (lt_of_block TI)).trans TI
        have R9 := RI.next hb9
        have t9 := lt_of_block T9
        obtain ⟨Y, hY⟩ : ∃ Y, Y = (w9.alloc (.cells #[.int .i64 A, .bool false, .slice none 0 0] 50)).alloc (.cells #[.int .i64 (D : Int), .bool false, .slice none 0 0] 50) := ⟨_, rfl⟩
        obtain ⟨y, hy⟩ : ∃ y, y = w9.heap.size := ⟨_, rfl⟩
        have RY : RCtx w Y a N D := by rw [hY]; exact ((R9).alloc _).alloc _
        have TY : Y.heap[t]? = some (.cells #[.int .i64 16777216, .bool false, .slice none 0 0] 50 (0, 0)) := by rw [hY, Below.heap_alloc _ _ _ (by simp; omega), Below.heap_alloc _ _ _ (by omega)]; exact T9
        have AY : Y.heap[y]? = some (.cells #[.int .i64 A, .bool false, .slice none 0 0] 50 (0, 0)) := by rw [hY, hy, Below.heap_alloc _ _ _ (by simp)]; exact heap_alloc_new _ _
        have DY : Y.heap[y + 1]? = some (.cells #[.int .i64 (D : Int), .bool false, .slice none 0 0] 50 (0, 0)) := by rw [hY, hy]; exact heap_alloc_at (by simp)
        have LYY : t < y := by omega
        rw [← hY, ← hy]
        clear hY hy hb9 R9 T9 t9 p0 p1 p2 q0 q1 q2
        obtain ⟨⟨p0, p1, p2⟩, _⟩ := blk3 AY
        obtain ⟨⟨q0, q1, q2⟩, _⟩ := blk3 DY
        obtain ⟨⟨o0, o1, o2⟩, _⟩ := blk3 TY
        have sy := lt_of_block DY
        by_cases hie : i < es
        · have hcz : ¬ cmpZ A (16777216 * (D : Int)) < 0 := by
            have h := HGE.out i hi0 hie
            rw [HP.out, HA.out] at h
            unfold cmpZ; rw [if_neg (by omega)]; split <;> omega
          go_region_held3 (fun v => v.cell? ⟨y, 0, none⟩ = some (.int .i64 A) ∧ v.cell? ⟨y, 1, none⟩ = some (.bool false) ∧ v.cell? ⟨y, 2, none⟩ = some (.slice none 0 0) ∧ v.cell? ⟨y + 1, 0, none⟩ = some (.int .i64 (D : Int)) ∧ v.cell? ⟨y + 1, 1, none⟩ = some (.bool false) ∧ v.cell? ⟨y + 1, 2, none⟩ = some (.slice none 0 0) ∧ v.cell? ⟨t, 0, none⟩ = some (.int .i64 16777216) ∧ v.cell? ⟨t, 1, none⟩ = some (.bool false) ∧ v.cell? ⟨t, 2, none⟩ = some (.slice none 0 0)) (first | with_reducible exact ⟨p0, p1, p2, q0, q1, q2, o0, o1, o2⟩ | with_reducible exact ⟨j0, j1, j2, j3, j4, j5, j6, j7, j8⟩ | with_reducible exact ⟨l0, l1, l2, l3, l4, l5, l6, l7, l8⟩ | (go_keep; done)) (first | (go_at_call 37; refine (zMul 16777216 D (by omega) (by omega) (by omega) (by omega) (by omega) (by omega) _).mono ?_; rintro e w10 ⟨rfl, hb10⟩; (obtain ⟨⟨j0, j1, j2⟩, _⟩ := blk3 ((hb10.block y (by simp; omega)).trans AY)); (obtain ⟨⟨j3, j4, j5⟩, _⟩ := blk3 ((hb10.block (y + 1) (by simp; omega)).trans DY)); (obtain ⟨⟨j6, j7, j8⟩, _⟩ := blk3 ((hb10.block t (by simp; omega)).trans TY)); have hz10 := hb10.size; (try simp at hz10)) | (go_at_call 42; refine (zCmp A (16777216 * D) _).mono ?_; rintro e w11 ⟨rfl, hb11⟩; (obtain ⟨⟨l0, l1, l2⟩, _⟩ := blk3 ((hb11.block y (by omega)).trans ((hb10.block y (by simp; omega)).trans AY))); (obtain ⟨⟨l3, l4, l5⟩, _⟩ := blk3 ((hb11.block (y + 1) (by omega)).trans ((hb10.block (y + 1) (by simp; omega)).trans DY))); (obtain ⟨⟨l6, l7, l8⟩, _⟩ := blk3 ((hb11.block t (by omega)).trans ((hb10.block t (by simp; omega)).trans TY)))))
          go_wp2
          go_roundw
          case rel => exact ⟨i + 1, by first | rfl | go_num, by omega, by omega, (RY.drew hb10).next hb11, (hb11.block t (by omega)).trans ((hb10.block t (by simp; omega)).trans TY)⟩
          case measure => simp [intOf]; omega
        · obtain rfl : i = es := by omega
          have hcz : cmpZ A (16777216 * (D : Int)) < 0 := by
            have h := HLT.out
            rw [HP.out, HA.out] at h
            unfold cmpZ; rw [if_pos h]; decide
          go_region_held3 (fun v => v.cell? ⟨y, 0, none⟩ = some (.int .i64 A) ∧ v.cell? ⟨y, 1, none⟩ = some (.bool false) ∧ v.cell? ⟨y, 2, none⟩ = some (.slice none 0 0) ∧ v.cell? ⟨y + 1, 0, none⟩ = some (.int .i64 (D : Int)) ∧ v.cell? ⟨y + 1, 1, none⟩ = some (.bool false) ∧ v.cell? ⟨y + 1, 2, none⟩ = some (.slice none 0 0) ∧ v.cell? ⟨t, 0, none⟩ = some (.int .i64 16777216) ∧ v.cell? ⟨t, 1, none⟩ = some (.bool false) ∧ v.cell? ⟨t, 2, none⟩ = some (.slice none 0 0)) (first | with_reducible exact ⟨p0, p1, p2, q0, q1, q2, o0, o1, o2⟩ | with_reducible exact ⟨j0, j1, j2, j3, j4, j5, j6, j7, j8⟩ | with_reducible exact ⟨l0, l1, l2, l3, l4, l5, l6, l7, l8⟩ | (go_keep; done)) (first | (go_at_call 37; refine (zMul 16777216 D (by omega) (by omega) (by omega) (by omega) (by omega) (by omega) _).mono ?_; rintro e w10 ⟨rfl, hb10⟩; (obtain ⟨⟨j0, j1, j2⟩, _⟩ := blk3 ((hb10.block y (by simp; omega)).trans AY)); (obtain ⟨⟨j3, j4, j5⟩, _⟩ := blk3 ((hb10.block (y + 1) (by simp; omega)).trans DY)); (obtain ⟨⟨j6, j7, j8⟩, _⟩ := blk3 ((hb10.block t (by simp; omega)).trans TY)); have hz10 := hb10.size; (try simp at hz10)) | (go_at_call 42; refine (zCmp A (16777216 * D) _).mono ?_; rintro e w11 ⟨rfl, hb11⟩; (obtain ⟨⟨l0, l1, l2⟩, _⟩ := blk3 ((hb11.block y (by omega)).trans ((hb10.block y (by simp; omega)).trans AY))); (obtain ⟨⟨l3, l4, l5⟩, _⟩ := blk3 ((hb11.block (y + 1) (by omega)).trans ((hb10.block (y + 1) (by simp; omega)).trans DY))); (obtain ⟨⟨l6, l7, l8⟩, _⟩ := blk3 ((hb11.block t (by omega)).trans ((hb10.block t (by simp; omega)).trans TY)))))
          have R11 := (RY.drew hb10).next hb11
          have dv : ∀ v : World, Calls Tryd.prog 66 #[.agg #[.int .i64 A, .bool false, .slice none 0 0], .agg #[.int .i64 (D : Int), .bool false, .slice none 0 0]] v fun r w' => r = .returned (.tuple #[.agg #[.int .i64 M, .bool false, .slice none 0 0], .agg #[.int .i64 0, .bool false, .slice none 0 0]]) ∧ Below v.heap.size v w' := by
            intro v
            have h := zDiv A D hA0 hbd (by omega) (by omega) v
            have e1 := HM.out
            have e2 := HR.out
            rw [HP.out, HA.out] at e1 e2
            rw [e1, e2] at h
            exact h
          clear hb10 hb11 RY TY AY DY p0 p1 p2 q0 q1 q2 o0 o1 o2 j0 j1 j2 j3 j4 j5 j6 j7 j8 l0 l1 l2 l3 l4 l5 l6 l7 l8 hz10 sy RI TI SI
          obtain ⟨⟨p0, p1, p2⟩, _⟩ := blk3 R11.Nm
          obtain ⟨⟨q0, q1, q2⟩, _⟩ := blk3 R11.Dn
          go_wp2_with (first | (go_at_call 82; refine (sc _).mono ?_; rintro e w12 ⟨rfl, hb12⟩; have R12 := R11.next hb12) | (go_at_call 66; refine (dv _).mono ?_; rintro e w13 ⟨rfl, hb13⟩; have R13 := ((R12.alloc _).alloc _).next hb13; (have D13 := (hb13.block (w12.heap.size + 1) (by simp)).trans (heap_alloc_at (by simp))); have hz13 := hb13.size; (try simp at hz13)))
          obtain ⟨V, hV⟩ : ∃ Y, Y = (w13.alloc (.cells #[.int .i64 M, .bool false, .slice none 0 0] 50)).alloc (.cells #[.int .i64 0, .bool false, .slice none 0 0] 50) := ⟨_, rfl⟩
          obtain ⟨c, hc⟩ : ∃ c, c = w12.heap.size + 1 := ⟨_, rfl⟩
          obtain ⟨z, hz⟩ : ∃ z, z = w13.heap.size + 1 := ⟨_, rfl⟩
          have RV : RCtx w V a N D := by rw [hV]; exact (R13.alloc _).alloc _
          have CV : V.heap[c]? = some (.cells #[.int .i64 (D : Int), .bool false, .slice none 0 0] 50 (0, 0)) := by rw [hV, hc, Below.heap_alloc _ _ _ (by simp; omega), Below.heap_alloc _ _ _ (by omega)]; exact D13
          have ZV : V.heap[z]? = some (.cells #[.int .i64 0, .bool false, .slice none 0 0] 50 (0, 0)) := by rw [hV, hz]; exact heap_alloc_at (by simp)
          rw [← hV, ← hc, ← hz]
          clear hV hc hz hb13 hb12 hz13 D13 R12 R13 R11 p0 p1 p2 q0 q1 q2 sc dv
          obtain ⟨⟨p0, p1, p2⟩, _⟩ := blk3 CV
          obtain ⟨⟨q0, q1, q2⟩, _⟩ := blk3 ZV
          have sc := lt_of_block CV
          have sz := lt_of_block ZV
          go_region_held3 (fun v => v.cell? ⟨z, 0, none⟩ = some (.int .i64 0) ∧ v.cell? ⟨z, 1, none⟩ = some (.bool false) ∧ v.cell? ⟨z, 2, none⟩ = some (.slice none 0 0) ∧ v.cell? ⟨c, 0, none⟩ = some (.int .i64 (D : Int)) ∧ v.cell? ⟨c, 1, none⟩ = some (.bool false) ∧ v.cell? ⟨c, 2, none⟩ = some (.slice none 0 0)) (first | with_reducible exact ⟨q0, q1, q2, p0, p1, p2⟩ | with_reducible exact ⟨j3, j4, j5, j0, j1, j2⟩ | with_reducible exact ⟨l3, l4, l5, l0, l1, l2⟩ | (go_keep; done)) (first | (go_at_call 41; refine (zAdd _ _ (by decide) (by decide) _).mono ?_; rintro e w14 ⟨rfl, hb14⟩; (obtain ⟨⟨j0, j1, j2⟩, _⟩ := blk3 ((hb14.block c (by simp; omega)).trans CV)); (obtain ⟨⟨j3, j4, j5⟩, _⟩ := blk3 ((hb14.block z (by simp; omega)).trans ZV)); have hz14 := hb14.size; (try simp at hz14)) | (go_at_call 42; refine (zCmp _ _ _).mono ?_; rintro e w15 ⟨rfl, hb15⟩; (obtain ⟨⟨l0, l1, l2⟩, _⟩ := blk3 ((hb15.block c (by omega)).trans ((hb14.block c (by simp; omega)).trans CV))); (obtain ⟨⟨l3, l4, l5⟩, _⟩ := blk3 ((hb15.block z (by omega)).trans ((hb14.block z (by simp; omega)).trans ZV))); have R15 := (RV.drew hb14).next hb15; (obtain ⟨⟨f0, f1, f2⟩, _⟩ := blk3 R15.F)))
          have hcd : cmpZ (0 + 0) (D : Int) = -1 := by unfold cmpZ; rw [if_pos (by omega)]
          have hcd' : cmpZ 0 (D : Int) = -1 := hcd
          go_wp2
          go_ret2
          exact ⟨rfl, R15.B⟩
end Go.Proofs.YtoloenkcfpfgcaaDoor
