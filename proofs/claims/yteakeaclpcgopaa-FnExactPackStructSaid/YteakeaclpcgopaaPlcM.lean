/- The model's l7Places: the places of a field's numbers, from the struct's head on; conditions: a type, a rule and a number of things as said, a stride that is the field's. -/
import Derived.Test.YteakeaclpcgopaaPlc
namespace Go.Proofs.Yteakeaclpcgopaa
open Go.ChangeShapes Go.WideShapes Go.ChangeAt Go.RowKit
set_option linter.unusedVariables false
theorem C4.grown {w w' : World} {o : Nat} {a b c d : Value} {row : Option Nat} (h : C4 w o a b c d) (hb : w.grownBy w' row) (hne : some o ≠ row) : C4 w' o a b c d := by
  have z := hb.size
  have b := hb.block o h.hi hne
  exact ⟨(World.cell?_of_block (w := w) (a := ⟨o, 0, none⟩) b).trans h.c0, (World.cell?_of_block (w := w) (a := ⟨o, 1, none⟩) b).trans h.c1, (World.cell?_of_block (w := w) (a := ⟨o, 2, none⟩) b).trans h.c2, (World.cell?_of_block (w := w) (a := ⟨o, 3, none⟩) b).trans h.c3, (World.frozen?_of_block (w := w) (a := ⟨o, 0, none⟩) b).trans h.f0, (World.frozen?_of_block (w := w) (a := ⟨o, 1, none⟩) b).trans h.f1, (World.frozen?_of_block (w := w) (a := ⟨o, 2, none⟩) b).trans h.f2, (World.frozen?_of_block (w := w) (a := ⟨o, 3, none⟩) b).trans h.f3, by have := h.hi; omega⟩
theorem vec_cases (k : Nat) (h : k ≤ 8) : (k ≤ 2 ∧ vecN k = 0 ∧ colsN k = 1 ∧ numsN k = 1) ∨ (3 ≤ k ∧ k ≤ 5 ∧ vecN k = (numsN k : Int) ∧ colsN k = 1 ∧ wid k = 4 ∧ 2 ≤ numsN k) ∨ (6 ≤ k ∧ vecN k = (numsN k : Int) ∧ colsN k = numsN k ∧ wid k = 4 ∧ 2 ≤ numsN k) := by
  rcases ten (show k ≤ 9 by omega) with rfl | rfl | rfl | rfl | rfl | rfl | rfl | rfl | rfl | rfl
  all_goals first | decide | omega
set_option maxRecDepth 100000 in
set_option maxHeartbeats 4000000 in
theorem places60sa (nm t sn : ByteArray) (a r off sz : Int) (w : World) (hk : kOf t ≤ 8) (hr : 0 ≤ r ∧ r ≤ 2) (a0 : 0 ≤ a) (a1 : a ≤ 64) (o0 : 0 ≤ off) (o1 : off ≤ 200000) (hq : kOf t ≤ 2) (ha : 0 < a) : Calls Try.prog 60 #[.agg #[.string nm, .string t, .int .i64 a], .agg #[.string sn, .int .i64 off, .int .i64 sz, .int .i64 (fstr (kOf t) a r)], .int .i64 r] w fun e w' => ∃ v, e = .returned v ∧ RowI w' w.heap.size v (cntN (kOf t) a) (fun i => off + plc (kOf t) a r i) ∧ Below w.heap.size w w' := by
  have fb := f_bounds (kOf t) a r hk hr a0 a1
  have tb := tal_bounds (kOf t) r hk hr
  have qs := quo_st (kOf t) r hr
  have vc := vec_cases (kOf t) hk
  obtain ⟨eC, eQ, hC1, hC4, hQ1, hQ4⟩ := colsN_eq (kOf t) hk
  have HT : Hid (∀ w, Calls Try.prog 14 #[.string t, .int .i64 r] w fun e w' => e = .returned (.tuple #[.int .i64 (tsz (kOf t) r), .int .i64 (tal (kOf t) r)]) ∧ w' = w) := fun w => by
    have h := size14 t r w
    unfold tszR talR at h
    rw [if_pos ⟨hr, hk⟩, if_pos ⟨hr, hk⟩] at h
    exact h
  have HMx : Hid (∀ w, Calls Try.prog 46 #[.string t] w fun e w' => e = .returned (.bool (decide (6 ≤ kOf t ∧ kOf t ≤ 8))) ∧ w' = w) := fun w => matrix46 t w
  have HV : Hid (∀ w, Calls Try.prog 44 #[.string t] w fun e w' => e = .returned (.int .i64 (vecN (kOf t))) ∧ w' = w) := fun w => vec44 t w
  have HP : Hid (∀ x c q, c < colsN (kOf t) → q < numsN (kOf t) → plc (kOf t) a r ((x * colsN (kOf t) + c) * numsN (kOf t) + q) = (x : Int) * fstr (kOf t) a r + (c : Int) * tst (kOf t) r + (q : Int) * wid (kOf t)) := fun x c q hc hq => plc_at (kOf t) a r x c q hc hq
  have hcnt : cntN (kOf t) a = manyN a * colsN (kOf t) * numsN (kOf t) := rfl
  have hmany : (a = 0 → manyN a = 1) ∧ (0 < a → ((manyN a : Nat) : Int) = a) := by
    unfold manyN
    constructor
    · intro h; rw [if_pos h]
    · intro h; rw [if_neg (by omega)]; omega
  have hm64 : manyN a ≤ 64 := by unfold manyN; split <;> omega
  clear eC eQ
  generalize plc (kOf t) a r = P at *
  generalize cntN (kOf t) a = CN at *
  generalize fsz (kOf t) a r = z1 at *
  generalize fal (kOf t) a r = z2 at *
  generalize fstr (kOf t) a r = FS at *
  generalize tst (kOf t) r = TS at *
  generalize tsz (kOf t) r = tz at *
  generalize tal (kOf t) r = ta at *
  generalize wid (kOf t) = W at *
  generalize colsN (kOf t) = C at *
  generalize numsN (kOf t) = Q at *
  generalize manyN a = MN at *
  generalize vecN (kOf t) = NV at *
  generalize kOf t = kt at *
  obtain ⟨i0', hi, hz0, hz1, hz2⟩ := info_parts info3
  have Y2 := (C3.new w (.string nm) (.string t) (.int .i64 a) 61).alloc (.cells #[.string sn, .int .i64 off, .int .i64 sz, .int .i64 FS] 76)
  have Z2 := C4.new (w.alloc (.cells #[.string nm, .string t, .int .i64 a] 61)) (.string sn) (.int .i64 off) (.int .i64 sz) (.int .i64 FS) 76
  rw [World.size_alloc] at Z2
  have B2 : Below w.heap.size w ((w.alloc (.cells #[.string nm, .string t, .int .i64 a] 61)).alloc (.cells #[.string sn, .int .i64 off, .int .i64 sz, .int .i64 FS] 76)) := alloc_b.trans (alloc_b.mono (by simp))
  have HY2 : Hid (C3 _ _ _ _ _) := Y2
  have HZ2 : Hid (C4 _ _ _ _ _ _) := Z2
  have HB2 : Hid (Below _ _ _) := B2
  clear Y2 Z2 B2
  rcases vc with ⟨hk2, hv, hC, hQ⟩ | ⟨hk3, hk5, hv, hC, hW, hQ2⟩ | ⟨hk6, hv, hC, hW, hQ2⟩
  · skip
    rw [hv] at HV
    have hd : ¬ (6 ≤ kt ∧ kt ≤ 8) := by omega
    rw [decide_eq_false hd] at HMx
    have HcC : Hid (C = 1) := hC
    have HcQ : Hid (Q = 1) := hQ
    have hCle : C ≤ 1 := by omega
    have hQle : Q ≤ 1 := by omega
    have Hcnt : Hid (CN = MN * C * Q) := hcnt
    clear qs hd hv hC hQ hcnt
    have hMa := hmany.2 ha
    clear hmany hq
    go_enter Try.func60, Try.ntmps60
    go_wp2_with (go_at_call 14; refine (HT.out _).mono ?_; rintro e w' ⟨rfl, hw⟩; subst w')
    go_loopw [11, 12] (fun v i wr => ∃ (x : Nat) (u : Value), x ≤ MN ∧ i = .int .i64 x ∧ u = v ∧ RowI wr (w.heap.size + 2) u (x * C * Q) (fun i => off + P i) ∧ C3 wr w.heap.size (.string nm) (.string t) (.int .i64 a) ∧ C4 wr (w.heap.size + 1) (.string sn) (.int .i64 off) (.int .i64 sz) (.int .i64 FS) ∧ Below w.heap.size w wr) (fun _ i _ => MN - (intOf i).toNat)
    case atStart => exact ⟨0, .slice none 0 0, by omega, rfl, rfl, by rw [Nat.zero_mul, Nat.zero_mul]; exact World.ownsRow_nil _ _ _ _, HY2.out, HZ2.out, HB2.out⟩
    case round =>
      obtain ⟨x, u, hx, rfl, rfl, R, Y, Zz, B⟩ := hrel
      by_cases hxn : x < MN
      · have x1 : (x : Int) < a := by omega
        have px := mul_bounds (x : Int) FS 64 128 (by omega) (by omega) (by omega) (by omega)
        have YX : Hid (C3 wr w.heap.size (.string nm) (.string t) (.int .i64 a)) := Y
        have ZX : Hid (C4 wr (w.heap.size + 1) (.string sn) (.int .i64 off) (.int .i64 sz) (.int .i64 FS)) := Zz
        have HB : Hid (Below w.heap.size w wr) := B
        have lz : w.heap.size + 2 ≤ wr.heap.size := Zz.hi
        obtain ⟨y0, y1, y2, _, _, _, _⟩ := Y
        obtain ⟨z0, z1, z2, z3, _, _, _, _, _⟩ := Zz
        have hp := HP.out x 0 0 (by omega) (by omega)
        have ln : (x * C + 0) * Q + 0 ≤ 1100 := by
          have l1 : x * C ≤ 64 * 4 := Nat.mul_le_mul (by omega) (by omega)
          have l2 : (x * C + 0) * Q ≤ 260 * 4 := Nat.mul_le_mul (by omega) (by omega)
          omega
        replace R : World.ownsRow wr (w.heap.size + 2) 3 1 u ((x * C + 0) * Q + 0) ((List.range ((x * C + 0) * Q + 0)).map fun i => .int .i64 (off + P i)) := by rw [Nat.add_zero, Nat.add_zero]; exact R
        obtain ⟨n, hne⟩ : ∃ n, (x * C + 0) * Q + 0 = n := ⟨_, rfl⟩
        rw [hne] at hp R ln
        have HNE : Hid ((x * C + 0) * Q + 0 = n) := hne
        clear hne
        have HPP : Hid (off + P n = off + (x : Int) * FS) := by show _ = _; rw [hp]; simp
        clear hp
        go_wp2_with (first | (go_at_call 44; refine (HV.out _).mono ?_; rintro e w' ⟨rfl, hw⟩; subst w') | (go_at_call 46; refine (HMx.out _).mono ?_; rintro e w' ⟨rfl, hw⟩; subst w') | (at_builtin; refine wpList_append_own _ rfl _ _ 83 rfl (w.heap.size + 2) 3 i0' (.int .i64 0) 1 8 Try.underlying83 hi hz0 hz1 hz2 rfl (by decide) _ _ _ rfl (R.alloc _) ⟨wr.heap.size, 0, none⟩ 1 1 [.int .i64 (off + (x : Int) * FS)] rfl rfl ?c1 ?c2 ?c3 ?c4 ?c5 ?_))
        try
          case c1 =>
            intro j u hj
            match j, hj with
            | 0, hj => simp at hj; subst hj; simp [Addr.add]
        case c2 => first | (intro u hu; simp at hu; subst hu; rfl) | rfl
        case c3 => unfold maxLen; omega
        case c4 => omega
        case c5 => first | omega | (simp; omega)
        intro v' w4 hown' hgrow hnil
        have far : ∀ g, u.ownBlock = some g → w.heap.size + 2 ≤ g := fun g hg => (R.lt g hg).1
        have R1 : Hid (RowI w4 (w.heap.size + 2) v' (n + 1) (fun i => off + P i)) := by
          show World.ownsRow _ _ _ _ _ _ _
          rw [List.range_succ, List.map_append]
          simp only [List.map_cons, List.map_nil]
          rw [HPP.out]
          exact hown'
        have Y1 : Hid (C3 w4 w.heap.size (.string nm) (.string t) (.int .i64 a)) := (YX.out.alloc _).grown hgrow (fun e => by have := far _ e.symm; omega)
        have Z1 : Hid (C4 w4 (w.heap.size + 1) (.string sn) (.int .i64 off) (.int .i64 sz) (.int .i64 FS)) := (ZX.out.next (alloc_b (o := .cells #[.int .i64 (off + (x : Int) * FS)] 3))).grown hgrow (fun e => by have := far _ e.symm; omega)
        have B1 : Hid (Below w.heap.size w w4) := (HB.out.alloc HB.out.size _).grown hgrow (by have := HB.out.size; simp; omega) (fun g hg => by have := far g hg; omega)
        clear hown' hgrow hnil R far
        go_wp2
        go_roundw
        case rel =>
          have e : (x + 1) * C * Q = n + 1 := by have h := HNE.out; rw [HcC.out, HcQ.out] at h ⊢; omega
          exact ⟨x + 1, _, by omega, by go_num, rfl, by rw [e]; exact R1.out, Y1.out, Z1.out, B1.out⟩
        case measure => simp [intOf] <;> omega
      · have hxx : x = MN := by omega
        have x1 : ¬ (x : Int) < a := by omega
        have eN : CN = x * C * Q := by rw [Hcnt.out, hxx]
        have hR : Hid (RowI wr w.heap.size u CN (fun i => off + P i)) := by
          show World.ownsRow _ _ _ _ _ _ _
          rw [eN]
          exact owns_mono R (by omega)
        clear eN
        go_wp2
        go_ret
        exact ⟨u, rfl, hR.out, B⟩
  · exfalso; omega
  · exfalso; omega
set_option maxRecDepth 100000 in
set_option maxHeartbeats 4000000 in
theorem places60so (nm t sn : ByteArray) (a r off sz : Int) (w : World) (hk : kOf t ≤ 8) (hr : 0 ≤ r ∧ r ≤ 2) (a0 : 0 ≤ a) (a1 : a ≤ 64) (o0 : 0 ≤ off) (o1 : off ≤ 200000) (hq : kOf t ≤ 2) (ha : ¬ 0 < a) : Calls Try.prog 60 #[.agg #[.string nm, .string t, .int .i64 a], .agg #[.string sn, .int .i64 off, .int .i64 sz, .int .i64 (fstr (kOf t) a r)], .int .i64 r] w fun e w' => ∃ v, e = .returned v ∧ RowI w' w.heap.size v (cntN (kOf t) a) (fun i => off + plc (kOf t) a r i) ∧ Below w.heap.size w w' := by
  have fb := f_bounds (kOf t) a r hk hr a0 a1
  have tb := tal_bounds (kOf t) r hk hr
  have qs := quo_st (kOf t) r hr
  have vc := vec_cases (kOf t) hk
  obtain ⟨eC, eQ, hC1, hC4, hQ1, hQ4⟩ := colsN_eq (kOf t) hk
  have HT : Hid (∀ w, Calls Try.prog 14 #[.string t, .int .i64 r] w fun e w' => e = .returned (.tuple #[.int .i64 (tsz (kOf t) r), .int .i64 (tal (kOf t) r)]) ∧ w' = w) := fun w => by
    have h := size14 t r w
    unfold tszR talR at h
    rw [if_pos ⟨hr, hk⟩, if_pos ⟨hr, hk⟩] at h
    exact h
  have HMx : Hid (∀ w, Calls Try.prog 46 #[.string t] w fun e w' => e = .returned (.bool (decide (6 ≤ kOf t ∧ kOf t ≤ 8))) ∧ w' = w) := fun w => matrix46 t w
  have HV : Hid (∀ w, Calls Try.prog 44 #[.string t] w fun e w' => e = .returned (.int .i64 (vecN (kOf t))) ∧ w' = w) := fun w => vec44 t w
  have HP : Hid (∀ x c q, c < colsN (kOf t) → q < numsN (kOf t) → plc (kOf t) a r ((x * colsN (kOf t) + c) * numsN (kOf t) + q) = (x : Int) * fstr (kOf t) a r + (c : Int) * tst (kOf t) r + (q : Int) * wid (kOf t)) := fun x c q hc hq => plc_at (kOf t) a r x c q hc hq
  have hcnt : cntN (kOf t) a = manyN a * colsN (kOf t) * numsN (kOf t) := rfl
  have hmany : (a = 0 → manyN a = 1) ∧ (0 < a → ((manyN a : Nat) : Int) = a) := by
    unfold manyN
    constructor
    · intro h; rw [if_pos h]
    · intro h; rw [if_neg (by omega)]; omega
  have hm64 : manyN a ≤ 64 := by unfold manyN; split <;> omega
  clear eC eQ
  generalize plc (kOf t) a r = P at *
  generalize cntN (kOf t) a = CN at *
  generalize fsz (kOf t) a r = z1 at *
  generalize fal (kOf t) a r = z2 at *
  generalize fstr (kOf t) a r = FS at *
  generalize tst (kOf t) r = TS at *
  generalize tsz (kOf t) r = tz at *
  generalize tal (kOf t) r = ta at *
  generalize wid (kOf t) = W at *
  generalize colsN (kOf t) = C at *
  generalize numsN (kOf t) = Q at *
  generalize manyN a = MN at *
  generalize vecN (kOf t) = NV at *
  generalize kOf t = kt at *
  obtain ⟨i0', hi, hz0, hz1, hz2⟩ := info_parts info3
  have Y2 := (C3.new w (.string nm) (.string t) (.int .i64 a) 61).alloc (.cells #[.string sn, .int .i64 off, .int .i64 sz, .int .i64 FS] 76)
  have Z2 := C4.new (w.alloc (.cells #[.string nm, .string t, .int .i64 a] 61)) (.string sn) (.int .i64 off) (.int .i64 sz) (.int .i64 FS) 76
  rw [World.size_alloc] at Z2
  have B2 : Below w.heap.size w ((w.alloc (.cells #[.string nm, .string t, .int .i64 a] 61)).alloc (.cells #[.string sn, .int .i64 off, .int .i64 sz, .int .i64 FS] 76)) := alloc_b.trans (alloc_b.mono (by simp))
  have HY2 : Hid (C3 _ _ _ _ _) := Y2
  have HZ2 : Hid (C4 _ _ _ _ _ _) := Z2
  have HB2 : Hid (Below _ _ _) := B2
  clear Y2 Z2 B2
  rcases vc with ⟨hk2, hv, hC, hQ⟩ | ⟨hk3, hk5, hv, hC, hW, hQ2⟩ | ⟨hk6, hv, hC, hW, hQ2⟩
  · skip
    rw [hv] at HV
    have hd : ¬ (6 ≤ kt ∧ kt ≤ 8) := by omega
    rw [decide_eq_false hd] at HMx
    have HcC : Hid (C = 1) := hC
    have HcQ : Hid (Q = 1) := hQ
    have hCle : C ≤ 1 := by omega
    have hQle : Q ≤ 1 := by omega
    have Hcnt : Hid (CN = MN * C * Q) := hcnt
    clear qs hd hv hC hQ hcnt
    have hMa := hmany.1 (by omega)
    subst hMa
    clear hmany hq
    go_enter Try.func60, Try.ntmps60
    go_wp2_with (go_at_call 14; refine (HT.out _).mono ?_; rintro e w' ⟨rfl, hw⟩; subst w')
    go_loopw [11, 12] (fun v i wr => ∃ (x : Nat) (u : Value), x ≤ 1 ∧ i = .int .i64 x ∧ u = v ∧ RowI wr (w.heap.size + 2) u (x * C * Q) (fun i => off + P i) ∧ C3 wr w.heap.size (.string nm) (.string t) (.int .i64 a) ∧ C4 wr (w.heap.size + 1) (.string sn) (.int .i64 off) (.int .i64 sz) (.int .i64 FS) ∧ Below w.heap.size w wr) (fun _ i _ => 1 - (intOf i).toNat)
    case atStart => exact ⟨0, .slice none 0 0, by omega, rfl, rfl, by rw [Nat.zero_mul, Nat.zero_mul]; exact World.ownsRow_nil _ _ _ _, HY2.out, HZ2.out, HB2.out⟩
    case round =>
      obtain ⟨x, u, hx, rfl, rfl, R, Y, Zz, B⟩ := hrel
      by_cases hxn : x < 1
      · have x1 : (x : Int) < 1 := by omega
        have hx0 : x = 0 := by omega
        subst hx0
        have YX : Hid (C3 wr w.heap.size (.string nm) (.string t) (.int .i64 a)) := Y
        have ZX : Hid (C4 wr (w.heap.size + 1) (.string sn) (.int .i64 off) (.int .i64 sz) (.int .i64 FS)) := Zz
        have HB : Hid (Below w.heap.size w wr) := B
        have lz : w.heap.size + 2 ≤ wr.heap.size := Zz.hi
        obtain ⟨y0, y1, y2, _, _, _, _⟩ := Y
        obtain ⟨z0, z1, z2, z3, _, _, _, _, _⟩ := Zz
        have hp := HP.out 0 0 0 (by omega) (by omega)
        have ln : (0 * C + 0) * Q + 0 ≤ 1100 := by
          have l1 : 0 * C ≤ 64 * 4 := Nat.mul_le_mul (by omega) (by omega)
          have l2 : (0 * C + 0) * Q ≤ 260 * 4 := Nat.mul_le_mul (by omega) (by omega)
          omega
        replace R : World.ownsRow wr (w.heap.size + 2) 3 1 u ((0 * C + 0) * Q + 0) ((List.range ((0 * C + 0) * Q + 0)).map fun i => .int .i64 (off + P i)) := by rw [Nat.add_zero, Nat.add_zero]; exact R
        obtain ⟨n, hne⟩ : ∃ n, (0 * C + 0) * Q + 0 = n := ⟨_, rfl⟩
        rw [hne] at hp R ln
        have HNE : Hid ((0 * C + 0) * Q + 0 = n) := hne
        clear hne
        have HPP : Hid (off + P n = off) := by show _ = _; rw [hp]; simp
        clear hp
        go_wp2_with (first | (go_at_call 44; refine (HV.out _).mono ?_; rintro e w' ⟨rfl, hw⟩; subst w') | (go_at_call 46; refine (HMx.out _).mono ?_; rintro e w' ⟨rfl, hw⟩; subst w') | (at_builtin; refine wpList_append_own _ rfl _ _ 83 rfl (w.heap.size + 2) 3 i0' (.int .i64 0) 1 8 Try.underlying83 hi hz0 hz1 hz2 rfl (by decide) _ _ _ rfl (R.alloc _) ⟨wr.heap.size, 0, none⟩ 1 1 [.int .i64 (off)] rfl rfl ?c1 ?c2 ?c3 ?c4 ?c5 ?_))
        try
          case c1 =>
            intro j u hj
            match j, hj with
            | 0, hj => simp at hj; subst hj; simp [Addr.add]
        case c2 => first | (intro u hu; simp at hu; subst hu; rfl) | rfl
        case c3 => unfold maxLen; omega
        case c4 => omega
        case c5 => first | omega | (simp; omega)
        intro v' w4 hown' hgrow hnil
        have far : ∀ g, u.ownBlock = some g → w.heap.size + 2 ≤ g := fun g hg => (R.lt g hg).1
        have R1 : Hid (RowI w4 (w.heap.size + 2) v' (n + 1) (fun i => off + P i)) := by
          show World.ownsRow _ _ _ _ _ _ _
          rw [List.range_succ, List.map_append]
          simp only [List.map_cons, List.map_nil]
          rw [HPP.out]
          exact hown'
        have Y1 : Hid (C3 w4 w.heap.size (.string nm) (.string t) (.int .i64 a)) := (YX.out.alloc _).grown hgrow (fun e => by have := far _ e.symm; omega)
        have Z1 : Hid (C4 w4 (w.heap.size + 1) (.string sn) (.int .i64 off) (.int .i64 sz) (.int .i64 FS)) := (ZX.out.next (alloc_b (o := .cells #[.int .i64 (off)] 3))).grown hgrow (fun e => by have := far _ e.symm; omega)
        have B1 : Hid (Below w.heap.size w w4) := (HB.out.alloc HB.out.size _).grown hgrow (by have := HB.out.size; simp; omega) (fun g hg => by have := far g hg; omega)
        clear hown' hgrow hnil R far
        go_wp2
        go_roundw
        case rel =>
          have e : (0 + 1) * C * Q = n + 1 := by have h := HNE.out; rw [HcC.out, HcQ.out] at h ⊢; omega
          exact ⟨0 + 1, _, by omega, by go_num, rfl, by rw [e]; exact R1.out, Y1.out, Z1.out, B1.out⟩
        case measure => simp [intOf] <;> omega
      · have hxx : x = 1 := by omega
        have x1 : ¬ (x : Int) < 1 := by omega
        have eN : CN = x * C * Q := by rw [Hcnt.out, hxx]
        have hR : Hid (RowI wr w.heap.size u CN (fun i => off + P i)) := by
          show World.ownsRow _ _ _ _ _ _ _
          rw [eN]
          exact owns_mono R (by omega)
        clear eN
        go_wp2
        go_ret
        exact ⟨u, rfl, hR.out, B⟩
  · exfalso; omega
  · exfalso; omega
set_option maxRecDepth 100000 in
set_option maxHeartbeats 4000000 in
theorem places60va (nm t sn : ByteArray) (a r off sz : Int) (w : World) (hk : kOf t ≤ 8) (hr : 0 ≤ r ∧ r ≤ 2) (a0 : 0 ≤ a) (a1 : a ≤ 64) (o0 : 0 ≤ off) (o1 : off ≤ 200000) (hq : 3 ≤ kOf t ∧ kOf t ≤ 5) (ha : 0 < a) : Calls Try.prog 60 #[.agg #[.string nm, .string t, .int .i64 a], .agg #[.string sn, .int .i64 off, .int .i64 sz, .int .i64 (fstr (kOf t) a r)], .int .i64 r] w fun e w' => ∃ v, e = .returned v ∧ RowI w' w.heap.size v (cntN (kOf t) a) (fun i => off + plc (kOf t) a r i) ∧ Below w.heap.size w w' := by
  have fb := f_bounds (kOf t) a r hk hr a0 a1
  have tb := tal_bounds (kOf t) r hk hr
  have qs := quo_st (kOf t) r hr
  have vc := vec_cases (kOf t) hk
  obtain ⟨eC, eQ, hC1, hC4, hQ1, hQ4⟩ := colsN_eq (kOf t) hk
  have HT : Hid (∀ w, Calls Try.prog 14 #[.string t, .int .i64 r] w fun e w' => e = .returned (.tuple #[.int .i64 (tsz (kOf t) r), .int .i64 (tal (kOf t) r)]) ∧ w' = w) := fun w => by
    have h := size14 t r w
    unfold tszR talR at h
    rw [if_pos ⟨hr, hk⟩, if_pos ⟨hr, hk⟩] at h
    exact h
  have HMx : Hid (∀ w, Calls Try.prog 46 #[.string t] w fun e w' => e = .returned (.bool (decide (6 ≤ kOf t ∧ kOf t ≤ 8))) ∧ w' = w) := fun w => matrix46 t w
  have HV : Hid (∀ w, Calls Try.prog 44 #[.string t] w fun e w' => e = .returned (.int .i64 (vecN (kOf t))) ∧ w' = w) := fun w => vec44 t w
  have HP : Hid (∀ x c q, c < colsN (kOf t) → q < numsN (kOf t) → plc (kOf t) a r ((x * colsN (kOf t) + c) * numsN (kOf t) + q) = (x : Int) * fstr (kOf t) a r + (c : Int) * tst (kOf t) r + (q : Int) * wid (kOf t)) := fun x c q hc hq => plc_at (kOf t) a r x c q hc hq
  have hcnt : cntN (kOf t) a = manyN a * colsN (kOf t) * numsN (kOf t) := rfl
  have hmany : (a = 0 → manyN a = 1) ∧ (0 < a → ((manyN a : Nat) : Int) = a) := by
    unfold manyN
    constructor
    · intro h; rw [if_pos h]
    · intro h; rw [if_neg (by omega)]; omega
  have hm64 : manyN a ≤ 64 := by unfold manyN; split <;> omega
  clear eC eQ
  generalize plc (kOf t) a r = P at *
  generalize cntN (kOf t) a = CN at *
  generalize fsz (kOf t) a r = z1 at *
  generalize fal (kOf t) a r = z2 at *
  generalize fstr (kOf t) a r = FS at *
  generalize tst (kOf t) r = TS at *
  generalize tsz (kOf t) r = tz at *
  generalize tal (kOf t) r = ta at *
  generalize wid (kOf t) = W at *
  generalize colsN (kOf t) = C at *
  generalize numsN (kOf t) = Q at *
  generalize manyN a = MN at *
  generalize vecN (kOf t) = NV at *
  generalize kOf t = kt at *
  obtain ⟨i0', hi, hz0, hz1, hz2⟩ := info_parts info3
  have Y2 := (C3.new w (.string nm) (.string t) (.int .i64 a) 61).alloc (.cells #[.string sn, .int .i64 off, .int .i64 sz, .int .i64 FS] 76)
  have Z2 := C4.new (w.alloc (.cells #[.string nm, .string t, .int .i64 a] 61)) (.string sn) (.int .i64 off) (.int .i64 sz) (.int .i64 FS) 76
  rw [World.size_alloc] at Z2
  have B2 : Below w.heap.size w ((w.alloc (.cells #[.string nm, .string t, .int .i64 a] 61)).alloc (.cells #[.string sn, .int .i64 off, .int .i64 sz, .int .i64 FS] 76)) := alloc_b.trans (alloc_b.mono (by simp))
  have HY2 : Hid (C3 _ _ _ _ _) := Y2
  have HZ2 : Hid (C4 _ _ _ _ _ _) := Z2
  have HB2 : Hid (Below _ _ _) := B2
  clear Y2 Z2 B2
  rcases vc with ⟨hk2, hv, hC, hQ⟩ | ⟨hk3, hk5, hv, hC, hW, hQ2⟩ | ⟨hk6, hv, hC, hW, hQ2⟩
  · exfalso; omega
  · skip
    rw [hv] at HV
    have hd : ¬ (6 ≤ kt ∧ kt ≤ 8) := by omega
    rw [decide_eq_false hd] at HMx
    have n0 : ¬ ((Q : Nat) : Int) = 0 := by omega
    subst hW
    have HcC : Hid (C = 1) := hC
    have hCle : C ≤ 1 := by omega
    have Hcnt : Hid (CN = MN * C * Q) := hcnt
    clear qs hd hv hC hcnt
    have hMa := hmany.2 ha
    clear hmany hq
    go_enter Try.func60, Try.ntmps60
    go_wp2_with (go_at_call 14; refine (HT.out _).mono ?_; rintro e w' ⟨rfl, hw⟩; subst w')
    go_loopw [11, 12] (fun v i wr => ∃ (x : Nat) (u : Value), x ≤ MN ∧ i = .int .i64 x ∧ u = v ∧ RowI wr (w.heap.size + 2) u (x * C * Q) (fun i => off + P i) ∧ C3 wr w.heap.size (.string nm) (.string t) (.int .i64 a) ∧ C4 wr (w.heap.size + 1) (.string sn) (.int .i64 off) (.int .i64 sz) (.int .i64 FS) ∧ Below w.heap.size w wr) (fun _ i _ => MN - (intOf i).toNat)
    case atStart => exact ⟨0, .slice none 0 0, by omega, rfl, rfl, by rw [Nat.zero_mul, Nat.zero_mul]; exact World.ownsRow_nil _ _ _ _, HY2.out, HZ2.out, HB2.out⟩
    case round =>
      obtain ⟨x, u, hx, rfl, rfl, R, Y, Zz, B⟩ := hrel
      by_cases hxn : x < MN
      · have x1 : (x : Int) < a := by omega
        have px := mul_bounds (x : Int) FS 64 128 (by omega) (by omega) (by omega) (by omega)
        have Y0 : Hid (C3 wr w.heap.size (.string nm) (.string t) (.int .i64 a)) := Y
        have Z0 : Hid (C4 wr (w.heap.size + 1) (.string sn) (.int .i64 off) (.int .i64 sz) (.int .i64 FS)) := Zz
        have B0 : Hid (Below w.heap.size w wr) := B
        have lz : w.heap.size + 2 ≤ wr.heap.size := Zz.hi
        obtain ⟨y0, y1, y2, _, _, _, _⟩ := Y
        obtain ⟨z0, z1, z2, z3, _, _, _, _, _⟩ := Zz
        go_wp2_with (first | (go_at_call 44; refine (HV.out _).mono ?_; rintro e w' ⟨rfl, hw⟩; subst w') | (go_at_call 46; refine (HMx.out _).mono ?_; rintro e w' ⟨rfl, hw⟩; subst w'))
        go_loopw [11, 17] (fun v i wr => ∃ (q : Nat) (u : Value), q ≤ Q ∧ i = .int .i64 q ∧ u = v ∧ RowI wr (w.heap.size + 2) u ((x * C + 0) * Q + q) (fun i => off + P i) ∧ C3 wr w.heap.size (.string nm) (.string t) (.int .i64 a) ∧ C4 wr (w.heap.size + 1) (.string sn) (.int .i64 off) (.int .i64 sz) (.int .i64 FS) ∧ Below w.heap.size w wr) (fun _ i _ => Q - (intOf i).toNat)
        case atStart => exact ⟨0, _, by omega, rfl, rfl, by rw [Nat.add_zero, Nat.add_zero]; exact R, Y0.out, Z0.out, B0.out⟩
        case round =>
          obtain ⟨q, u, hq, rfl, rfl, R, Y, Zz, B⟩ := hrel
          by_cases hqn : q < Q
          · have q1' : (q : Int) < (Q : Int) := by omega
            have hp := HP.out x 0 q (by omega) hqn
            have ln : (x * C + 0) * Q + q ≤ 1100 := by
              have l1 : x * C ≤ 64 * 4 := Nat.mul_le_mul (by omega) (by omega)
              have l2 : (x * C + 0) * Q ≤ 260 * 4 := Nat.mul_le_mul (by omega) (by omega)
              omega
            have YX : Hid (C3 wr w.heap.size (.string nm) (.string t) (.int .i64 a)) := Y
            have ZX : Hid (C4 wr (w.heap.size + 1) (.string sn) (.int .i64 off) (.int .i64 sz) (.int .i64 FS)) := Zz
            have HB : Hid (Below w.heap.size w wr) := B
            have lz : w.heap.size + 2 ≤ wr.heap.size := Zz.hi
            obtain ⟨y0, y1, y2, _, _, _, _⟩ := Y
            obtain ⟨z0, z1, z2, z3, _, _, _, _, _⟩ := Zz
            unfold RowI at R
            obtain ⟨n, hne⟩ : ∃ n, (x * C + 0) * Q + q = n := ⟨_, rfl⟩
            rw [hne] at hp R ln
            have HNE : Hid ((x * C + 0) * Q + q = n) := hne
            clear hne
            have HPP : Hid (off + P n = off + (x : Int) * FS + 4 * (q : Int)) := by show _ = _; rw [hp]; simp only [Int.natCast_zero, Int.zero_mul, Int.add_zero]; omega
            clear hp
            go_wp2_with (first | (go_at_call 44; refine (HV.out _).mono ?_; rintro e w' ⟨rfl, hw⟩; subst w') | (go_at_call 46; refine (HMx.out _).mono ?_; rintro e w' ⟨rfl, hw⟩; subst w') | (at_builtin; refine wpList_append_own _ rfl _ _ 83 rfl (w.heap.size + 2) 3 i0' (.int .i64 0) 1 8 Try.underlying83 hi hz0 hz1 hz2 rfl (by decide) _ _ _ rfl (R.alloc _) ⟨wr.heap.size, 0, none⟩ 1 1 [.int .i64 (off + (x : Int) * FS + 4 * (q : Int))] rfl rfl ?c1 ?c2 ?c3 ?c4 ?c5 ?_))
            try
              case c1 =>
                intro j u hj
                match j, hj with
                | 0, hj => simp at hj; subst hj; simp [Addr.add]
            case c2 => first | (intro u hu; simp at hu; subst hu; rfl) | rfl
            case c3 => unfold maxLen; omega
            case c4 => omega
            case c5 => first | omega | (simp; omega)
            intro v' w4 hown' hgrow hnil
            have far : ∀ g, u.ownBlock = some g → w.heap.size + 2 ≤ g := fun g hg => (R.lt g hg).1
            have R1 : Hid (RowI w4 (w.heap.size + 2) v' (n + 1) (fun i => off + P i)) := by
              show World.ownsRow _ _ _ _ _ _ _
              rw [List.range_succ, List.map_append]
              simp only [List.map_cons, List.map_nil]
              rw [HPP.out]
              exact hown'
            have Y1 : Hid (C3 w4 w.heap.size (.string nm) (.string t) (.int .i64 a)) := (YX.out.alloc _).grown hgrow (fun e => by have := far _ e.symm; omega)
            have Z1 : Hid (C4 w4 (w.heap.size + 1) (.string sn) (.int .i64 off) (.int .i64 sz) (.int .i64 FS)) := (ZX.out.next (alloc_b (o := .cells #[.int .i64 (off + (x : Int) * FS + 4 * (q : Int))] 3))).grown hgrow (fun e => by have := far _ e.symm; omega)
            have B1 : Hid (Below w.heap.size w w4) := (HB.out.alloc HB.out.size _).grown hgrow (by have := HB.out.size; simp; omega) (fun g hg => by have := far g hg; omega)
            clear hown' hgrow hnil R far
            go_wp2
            go_roundw
            case rel => exact ⟨q + 1, _, by omega, by go_num, rfl, by rw [← Nat.add_assoc, HNE.out]; exact R1.out, Y1.out, Z1.out, B1.out⟩
            case measure => simp [intOf] <;> omega
          · have hqq : q = Q := by omega
            rw [hqq] at R ⊢
            have hq' : ¬ (Q : Int) < (Q : Int) := by omega
            have Yk : Hid (C3 wr w.heap.size (.string nm) (.string t) (.int .i64 a)) := Y
            have Zk : Hid (C4 wr (w.heap.size + 1) (.string sn) (.int .i64 off) (.int .i64 sz) (.int .i64 FS)) := Zz
            have Bk : Hid (Below w.heap.size w wr) := B
            have lz : w.heap.size + 2 ≤ wr.heap.size := Zz.hi
            obtain ⟨y0, y1, y2, _, _, _, _⟩ := Y
            obtain ⟨z0, z1, z2, z3, _, _, _, _, _⟩ := Zz
            go_wp2
            go_roundw
            case rel =>
              have e : (x + 1) * C * Q = (x * C + 0) * Q + Q := by rw [HcC.out]; simp [Nat.succ_mul]
              exact ⟨x + 1, _, by omega, by go_num, rfl, by rw [e]; exact R, Yk.out, Zk.out, Bk.out⟩
            case measure => simp [intOf] <;> omega
      · have hxx : x = MN := by omega
        have x1 : ¬ (x : Int) < a := by omega
        have eN : CN = x * C * Q := by rw [Hcnt.out, hxx]
        have hR : Hid (RowI wr w.heap.size u CN (fun i => off + P i)) := by
          show World.ownsRow _ _ _ _ _ _ _
          rw [eN]
          exact owns_mono R (by omega)
        clear eN
        go_wp2
        go_ret
        exact ⟨u, rfl, hR.out, B⟩
  · exfalso; omega
set_option maxRecDepth 100000 in
set_option maxHeartbeats 4000000 in
theorem places60vo (nm t sn : ByteArray) (a r off sz : Int) (w : World) (hk : kOf t ≤ 8) (hr : 0 ≤ r ∧ r ≤ 2) (a0 : 0 ≤ a) (a1 : a ≤ 64) (o0 : 0 ≤ off) (o1 : off ≤ 200000) (hq : 3 ≤ kOf t ∧ kOf t ≤ 5) (ha : ¬ 0 < a) : Calls Try.prog 60 #[.agg #[.string nm, .string t, .int .i64 a], .agg #[.string sn, .int .i64 off, .int .i64 sz, .int .i64 (fstr (kOf t) a r)], .int .i64 r] w fun e w' => ∃ v, e = .returned v ∧ RowI w' w.heap.size v (cntN (kOf t) a) (fun i => off + plc (kOf t) a r i) ∧ Below w.heap.size w w' := by
  have fb := f_bounds (kOf t) a r hk hr a0 a1
  have tb := tal_bounds (kOf t) r hk hr
  have qs := quo_st (kOf t) r hr
  have vc := vec_cases (kOf t) hk
  obtain ⟨eC, eQ, hC1, hC4, hQ1, hQ4⟩ := colsN_eq (kOf t) hk
  have HT : Hid (∀ w, Calls Try.prog 14 #[.string t, .int .i64 r] w fun e w' => e = .returned (.tuple #[.int .i64 (tsz (kOf t) r), .int .i64 (tal (kOf t) r)]) ∧ w' = w) := fun w => by
    have h := size14 t r w
    unfold tszR talR at h
    rw [if_pos ⟨hr, hk⟩, if_pos ⟨hr, hk⟩] at h
    exact h
  have HMx : Hid (∀ w, Calls Try.prog 46 #[.string t] w fun e w' => e = .returned (.bool (decide (6 ≤ kOf t ∧ kOf t ≤ 8))) ∧ w' = w) := fun w => matrix46 t w
  have HV : Hid (∀ w, Calls Try.prog 44 #[.string t] w fun e w' => e = .returned (.int .i64 (vecN (kOf t))) ∧ w' = w) := fun w => vec44 t w
  have HP : Hid (∀ x c q, c < colsN (kOf t) → q < numsN (kOf t) → plc (kOf t) a r ((x * colsN (kOf t) + c) * numsN (kOf t) + q) = (x : Int) * fstr (kOf t) a r + (c : Int) * tst (kOf t) r + (q : Int) * wid (kOf t)) := fun x c q hc hq => plc_at (kOf t) a r x c q hc hq
  have hcnt : cntN (kOf t) a = manyN a * colsN (kOf t) * numsN (kOf t) := rfl
  have hmany : (a = 0 → manyN a = 1) ∧ (0 < a → ((manyN a : Nat) : Int) = a) := by
    unfold manyN
    constructor
    · intro h; rw [if_pos h]
    · intro h; rw [if_neg (by omega)]; omega
  have hm64 : manyN a ≤ 64 := by unfold manyN; split <;> omega
  clear eC eQ
  generalize plc (kOf t) a r = P at *
  generalize cntN (kOf t) a = CN at *
  generalize fsz (kOf t) a r = z1 at *
  generalize fal (kOf t) a r = z2 at *
  generalize fstr (kOf t) a r = FS at *
  generalize tst (kOf t) r = TS at *
  generalize tsz (kOf t) r = tz at *
  generalize tal (kOf t) r = ta at *
  generalize wid (kOf t) = W at *
  generalize colsN (kOf t) = C at *
  generalize numsN (kOf t) = Q at *
  generalize manyN a = MN at *
  generalize vecN (kOf t) = NV at *
  generalize kOf t = kt at *
  obtain ⟨i0', hi, hz0, hz1, hz2⟩ := info_parts info3
  have Y2 := (C3.new w (.string nm) (.string t) (.int .i64 a) 61).alloc (.cells #[.string sn, .int .i64 off, .int .i64 sz, .int .i64 FS] 76)
  have Z2 := C4.new (w.alloc (.cells #[.string nm, .string t, .int .i64 a] 61)) (.string sn) (.int .i64 off) (.int .i64 sz) (.int .i64 FS) 76
  rw [World.size_alloc] at Z2
  have B2 : Below w.heap.size w ((w.alloc (.cells #[.string nm, .string t, .int .i64 a] 61)).alloc (.cells #[.string sn, .int .i64 off, .int .i64 sz, .int .i64 FS] 76)) := alloc_b.trans (alloc_b.mono (by simp))
  have HY2 : Hid (C3 _ _ _ _ _) := Y2
  have HZ2 : Hid (C4 _ _ _ _ _ _) := Z2
  have HB2 : Hid (Below _ _ _) := B2
  clear Y2 Z2 B2
  rcases vc with ⟨hk2, hv, hC, hQ⟩ | ⟨hk3, hk5, hv, hC, hW, hQ2⟩ | ⟨hk6, hv, hC, hW, hQ2⟩
  · exfalso; omega
  · skip
    rw [hv] at HV
    have hd : ¬ (6 ≤ kt ∧ kt ≤ 8) := by omega
    rw [decide_eq_false hd] at HMx
    have n0 : ¬ ((Q : Nat) : Int) = 0 := by omega
    subst hW
    have HcC : Hid (C = 1) := hC
    have hCle : C ≤ 1 := by omega
    have Hcnt : Hid (CN = MN * C * Q) := hcnt
    clear qs hd hv hC hcnt
    have hMa := hmany.1 (by omega)
    subst hMa
    clear hmany hq
    go_enter Try.func60, Try.ntmps60
    go_wp2_with (go_at_call 14; refine (HT.out _).mono ?_; rintro e w' ⟨rfl, hw⟩; subst w')
    go_loopw [11, 12] (fun v i wr => ∃ (x : Nat) (u : Value), x ≤ 1 ∧ i = .int .i64 x ∧ u = v ∧ RowI wr (w.heap.size + 2) u (x * C * Q) (fun i => off + P i) ∧ C3 wr w.heap.size (.string nm) (.string t) (.int .i64 a) ∧ C4 wr (w.heap.size + 1) (.string sn) (.int .i64 off) (.int .i64 sz) (.int .i64 FS) ∧ Below w.heap.size w wr) (fun _ i _ => 1 - (intOf i).toNat)
    case atStart => exact ⟨0, .slice none 0 0, by omega, rfl, rfl, by rw [Nat.zero_mul, Nat.zero_mul]; exact World.ownsRow_nil _ _ _ _, HY2.out, HZ2.out, HB2.out⟩
    case round =>
      obtain ⟨x, u, hx, rfl, rfl, R, Y, Zz, B⟩ := hrel
      by_cases hxn : x < 1
      · have x1 : (x : Int) < 1 := by omega
        have hx0 : x = 0 := by omega
        subst hx0
        have Y0 : Hid (C3 wr w.heap.size (.string nm) (.string t) (.int .i64 a)) := Y
        have Z0 : Hid (C4 wr (w.heap.size + 1) (.string sn) (.int .i64 off) (.int .i64 sz) (.int .i64 FS)) := Zz
        have B0 : Hid (Below w.heap.size w wr) := B
        have lz : w.heap.size + 2 ≤ wr.heap.size := Zz.hi
        obtain ⟨y0, y1, y2, _, _, _, _⟩ := Y
        obtain ⟨z0, z1, z2, z3, _, _, _, _, _⟩ := Zz
        go_wp2_with (first | (go_at_call 44; refine (HV.out _).mono ?_; rintro e w' ⟨rfl, hw⟩; subst w') | (go_at_call 46; refine (HMx.out _).mono ?_; rintro e w' ⟨rfl, hw⟩; subst w'))
        go_loopw [11, 17] (fun v i wr => ∃ (q : Nat) (u : Value), q ≤ Q ∧ i = .int .i64 q ∧ u = v ∧ RowI wr (w.heap.size + 2) u ((0 * C + 0) * Q + q) (fun i => off + P i) ∧ C3 wr w.heap.size (.string nm) (.string t) (.int .i64 a) ∧ C4 wr (w.heap.size + 1) (.string sn) (.int .i64 off) (.int .i64 sz) (.int .i64 FS) ∧ Below w.heap.size w wr) (fun _ i _ => Q - (intOf i).toNat)
        case atStart => exact ⟨0, _, by omega, rfl, rfl, by rw [Nat.add_zero, Nat.add_zero]; exact R, Y0.out, Z0.out, B0.out⟩
        case round =>
          obtain ⟨q, u, hq, rfl, rfl, R, Y, Zz, B⟩ := hrel
          by_cases hqn : q < Q
          · have q1' : (q : Int) < (Q : Int) := by omega
            have hp := HP.out 0 0 q (by omega) hqn
            have ln : (0 * C + 0) * Q + q ≤ 1100 := by
              have l1 : 0 * C ≤ 64 * 4 := Nat.mul_le_mul (by omega) (by omega)
              have l2 : (0 * C + 0) * Q ≤ 260 * 4 := Nat.mul_le_mul (by omega) (by omega)
              omega
            have YX : Hid (C3 wr w.heap.size (.string nm) (.string t) (.int .i64 a)) := Y
            have ZX : Hid (C4 wr (w.heap.size + 1) (.string sn) (.int .i64 off) (.int .i64 sz) (.int .i64 FS)) := Zz
            have HB : Hid (Below w.heap.size w wr) := B
            have lz : w.heap.size + 2 ≤ wr.heap.size := Zz.hi
            obtain ⟨y0, y1, y2, _, _, _, _⟩ := Y
            obtain ⟨z0, z1, z2, z3, _, _, _, _, _⟩ := Zz
            unfold RowI at R
            obtain ⟨n, hne⟩ : ∃ n, (0 * C + 0) * Q + q = n := ⟨_, rfl⟩
            rw [hne] at hp R ln
            have HNE : Hid ((0 * C + 0) * Q + q = n) := hne
            clear hne
            have HPP : Hid (off + P n = off + 4 * (q : Int)) := by show _ = _; rw [hp]; simp only [Int.natCast_zero, Int.zero_mul, Int.zero_add, Int.add_zero]; omega
            clear hp
            go_wp2_with (first | (go_at_call 44; refine (HV.out _).mono ?_; rintro e w' ⟨rfl, hw⟩; subst w') | (go_at_call 46; refine (HMx.out _).mono ?_; rintro e w' ⟨rfl, hw⟩; subst w') | (at_builtin; refine wpList_append_own _ rfl _ _ 83 rfl (w.heap.size + 2) 3 i0' (.int .i64 0) 1 8 Try.underlying83 hi hz0 hz1 hz2 rfl (by decide) _ _ _ rfl (R.alloc _) ⟨wr.heap.size, 0, none⟩ 1 1 [.int .i64 (off + 4 * (q : Int))] rfl rfl ?c1 ?c2 ?c3 ?c4 ?c5 ?_))
            try
              case c1 =>
                intro j u hj
                match j, hj with
                | 0, hj => simp at hj; subst hj; simp [Addr.add]
            case c2 => first | (intro u hu; simp at hu; subst hu; rfl) | rfl
            case c3 => unfold maxLen; omega
            case c4 => omega
            case c5 => first | omega | (simp; omega)
            intro v' w4 hown' hgrow hnil
            have far : ∀ g, u.ownBlock = some g → w.heap.size + 2 ≤ g := fun g hg => (R.lt g hg).1
            have R1 : Hid (RowI w4 (w.heap.size + 2) v' (n + 1) (fun i => off + P i)) := by
              show World.ownsRow _ _ _ _ _ _ _
              rw [List.range_succ, List.map_append]
              simp only [List.map_cons, List.map_nil]
              rw [HPP.out]
              exact hown'
            have Y1 : Hid (C3 w4 w.heap.size (.string nm) (.string t) (.int .i64 a)) := (YX.out.alloc _).grown hgrow (fun e => by have := far _ e.symm; omega)
            have Z1 : Hid (C4 w4 (w.heap.size + 1) (.string sn) (.int .i64 off) (.int .i64 sz) (.int .i64 FS)) := (ZX.out.next (alloc_b (o := .cells #[.int .i64 (off + 4 * (q : Int))] 3))).grown hgrow (fun e => by have := far _ e.symm; omega)
            have B1 : Hid (Below w.heap.size w w4) := (HB.out.alloc HB.out.size _).grown hgrow (by have := HB.out.size; simp; omega) (fun g hg => by have := far g hg; omega)
            clear hown' hgrow hnil R far
            go_wp2
            go_roundw
            case rel => exact ⟨q + 1, _, by omega, by go_num, rfl, by rw [← Nat.add_assoc, HNE.out]; exact R1.out, Y1.out, Z1.out, B1.out⟩
            case measure => simp [intOf] <;> omega
          · have hqq : q = Q := by omega
            rw [hqq] at R ⊢
            have hq' : ¬ (Q : Int) < (Q : Int) := by omega
            have Yk : Hid (C3 wr w.heap.size (.string nm) (.string t) (.int .i64 a)) := Y
            have Zk : Hid (C4 wr (w.heap.size + 1) (.string sn) (.int .i64 off) (.int .i64 sz) (.int .i64 FS)) := Zz
            have Bk : Hid (Below w.heap.size w wr) := B
            have lz : w.heap.size + 2 ≤ wr.heap.size := Zz.hi
            obtain ⟨y0, y1, y2, _, _, _, _⟩ := Y
            obtain ⟨z0, z1, z2, z3, _, _, _, _, _⟩ := Zz
            go_wp2
            go_roundw
            case rel =>
              have e : (0 + 1) * C * Q = (0 * C + 0) * Q + Q := by rw [HcC.out]; simp [Nat.succ_mul]
              exact ⟨0 + 1, _, by omega, by go_num, rfl, by rw [e]; exact R, Yk.out, Zk.out, Bk.out⟩
            case measure => simp [intOf] <;> omega
      · have hxx : x = 1 := by omega
        have x1 : ¬ (x : Int) < 1 := by omega
        have eN : CN = x * C * Q := by rw [Hcnt.out, hxx]
        have hR : Hid (RowI wr w.heap.size u CN (fun i => off + P i)) := by
          show World.ownsRow _ _ _ _ _ _ _
          rw [eN]
          exact owns_mono R (by omega)
        clear eN
        go_wp2
        go_ret
        exact ⟨u, rfl, hR.out, B⟩
  · exfalso; omega
set_option maxRecDepth 100000 in
set_option maxHeartbeats 4000000 in
theorem places60ma (nm t sn : ByteArray) (a r off sz : Int) (w : World) (hk : kOf t ≤ 8) (hr : 0 ≤ r ∧ r ≤ 2) (a0 : 0 ≤ a) (a1 : a ≤ 64) (o0 : 0 ≤ off) (o1 : off ≤ 200000) (hq : 6 ≤ kOf t) (ha : 0 < a) : Calls Try.prog 60 #[.agg #[.string nm, .string t, .int .i64 a], .agg #[.string sn, .int .i64 off, .int .i64 sz, .int .i64 (fstr (kOf t) a r)], .int .i64 r] w fun e w' => ∃ v, e = .returned v ∧ RowI w' w.heap.size v (cntN (kOf t) a) (fun i => off + plc (kOf t) a r i) ∧ Below w.heap.size w w' := by
  have fb := f_bounds (kOf t) a r hk hr a0 a1
  have tb := tal_bounds (kOf t) r hk hr
  have qs := quo_st (kOf t) r hr
  have vc := vec_cases (kOf t) hk
  obtain ⟨eC, eQ, hC1, hC4, hQ1, hQ4⟩ := colsN_eq (kOf t) hk
  have HT : Hid (∀ w, Calls Try.prog 14 #[.string t, .int .i64 r] w fun e w' => e = .returned (.tuple #[.int .i64 (tsz (kOf t) r), .int .i64 (tal (kOf t) r)]) ∧ w' = w) := fun w => by
    have h := size14 t r w
    unfold tszR talR at h
    rw [if_pos ⟨hr, hk⟩, if_pos ⟨hr, hk⟩] at h
    exact h
  have HMx : Hid (∀ w, Calls Try.prog 46 #[.string t] w fun e w' => e = .returned (.bool (decide (6 ≤ kOf t ∧ kOf t ≤ 8))) ∧ w' = w) := fun w => matrix46 t w
  have HV : Hid (∀ w, Calls Try.prog 44 #[.string t] w fun e w' => e = .returned (.int .i64 (vecN (kOf t))) ∧ w' = w) := fun w => vec44 t w
  have HP : Hid (∀ x c q, c < colsN (kOf t) → q < numsN (kOf t) → plc (kOf t) a r ((x * colsN (kOf t) + c) * numsN (kOf t) + q) = (x : Int) * fstr (kOf t) a r + (c : Int) * tst (kOf t) r + (q : Int) * wid (kOf t)) := fun x c q hc hq => plc_at (kOf t) a r x c q hc hq
  have hcnt : cntN (kOf t) a = manyN a * colsN (kOf t) * numsN (kOf t) := rfl
  have hmany : (a = 0 → manyN a = 1) ∧ (0 < a → ((manyN a : Nat) : Int) = a) := by
    unfold manyN
    constructor
    · intro h; rw [if_pos h]
    · intro h; rw [if_neg (by omega)]; omega
  have hm64 : manyN a ≤ 64 := by unfold manyN; split <;> omega
  clear eC eQ
  generalize plc (kOf t) a r = P at *
  generalize cntN (kOf t) a = CN at *
  generalize fsz (kOf t) a r = z1 at *
  generalize fal (kOf t) a r = z2 at *
  generalize fstr (kOf t) a r = FS at *
  generalize tst (kOf t) r = TS at *
  generalize tsz (kOf t) r = tz at *
  generalize tal (kOf t) r = ta at *
  generalize wid (kOf t) = W at *
  generalize colsN (kOf t) = C at *
  generalize numsN (kOf t) = Q at *
  generalize manyN a = MN at *
  generalize vecN (kOf t) = NV at *
  generalize kOf t = kt at *
  obtain ⟨i0', hi, hz0, hz1, hz2⟩ := info_parts info3
  have Y2 := (C3.new w (.string nm) (.string t) (.int .i64 a) 61).alloc (.cells #[.string sn, .int .i64 off, .int .i64 sz, .int .i64 FS] 76)
  have Z2 := C4.new (w.alloc (.cells #[.string nm, .string t, .int .i64 a] 61)) (.string sn) (.int .i64 off) (.int .i64 sz) (.int .i64 FS) 76
  rw [World.size_alloc] at Z2
  have B2 : Below w.heap.size w ((w.alloc (.cells #[.string nm, .string t, .int .i64 a] 61)).alloc (.cells #[.string sn, .int .i64 off, .int .i64 sz, .int .i64 FS] 76)) := alloc_b.trans (alloc_b.mono (by simp))
  have HY2 : Hid (C3 _ _ _ _ _) := Y2
  have HZ2 : Hid (C4 _ _ _ _ _ _) := Z2
  have HB2 : Hid (Below _ _ _) := B2
  clear Y2 Z2 B2
  rcases vc with ⟨hk2, hv, hC, hQ⟩ | ⟨hk3, hk5, hv, hC, hW, hQ2⟩ | ⟨hk6, hv, hC, hW, hQ2⟩
  · exfalso; omega
  · exfalso; omega
  · skip
    obtain ⟨hqt, hn2, hn4⟩ := qs hk6 hk
    rw [hv] at HV hqt hn2 hn4
    rw [decide_eq_true (show 6 ≤ kt ∧ kt ≤ 8 from ⟨hk6, hk⟩)] at HMx
    have n0 : ¬ ((Q : Nat) : Int) = 0 := by omega
    subst hW
    subst hqt
    have HcC : Hid (C = Q) := hC
    have hCle : C ≤ Q := by omega
    have hCge : Q ≤ C := by omega
    have Hcnt : Hid (CN = MN * C * Q) := hcnt
    clear qs hv hC hcnt
    have hMa := hmany.2 ha
    clear hmany hq
    go_enter Try.func60, Try.ntmps60
    go_wp2_with (go_at_call 14; refine (HT.out _).mono ?_; rintro e w' ⟨rfl, hw⟩; subst w')
    go_loopw [11, 12] (fun v i wr => ∃ (x : Nat) (u : Value), x ≤ MN ∧ i = .int .i64 x ∧ u = v ∧ RowI wr (w.heap.size + 2) u (x * C * Q) (fun i => off + P i) ∧ C3 wr w.heap.size (.string nm) (.string t) (.int .i64 a) ∧ C4 wr (w.heap.size + 1) (.string sn) (.int .i64 off) (.int .i64 sz) (.int .i64 FS) ∧ Below w.heap.size w wr) (fun _ i _ => MN - (intOf i).toNat)
    case atStart => exact ⟨0, .slice none 0 0, by omega, rfl, rfl, by rw [Nat.zero_mul, Nat.zero_mul]; exact World.ownsRow_nil _ _ _ _, HY2.out, HZ2.out, HB2.out⟩
    case round =>
      obtain ⟨x, u, hx, rfl, rfl, R, Y, Zz, B⟩ := hrel
      by_cases hxn : x < MN
      · have x1 : (x : Int) < a := by omega
        have px := mul_bounds (x : Int) FS 64 128 (by omega) (by omega) (by omega) (by omega)
        have Y0 : Hid (C3 wr w.heap.size (.string nm) (.string t) (.int .i64 a)) := Y
        have Z0 : Hid (C4 wr (w.heap.size + 1) (.string sn) (.int .i64 off) (.int .i64 sz) (.int .i64 FS)) := Zz
        have B0 : Hid (Below w.heap.size w wr) := B
        have lz : w.heap.size + 2 ≤ wr.heap.size := Zz.hi
        obtain ⟨y0, y1, y2, _, _, _, _⟩ := Y
        obtain ⟨z0, z1, z2, z3, _, _, _, _, _⟩ := Zz
        go_wp2_with (first | (go_at_call 44; refine (HV.out _).mono ?_; rintro e w' ⟨rfl, hw⟩; subst w') | (go_at_call 46; refine (HMx.out _).mono ?_; rintro e w' ⟨rfl, hw⟩; subst w'))
        go_loopw [11, 15] (fun v i wr => ∃ (c : Nat) (u : Value), c ≤ C ∧ i = .int .i64 c ∧ u = v ∧ RowI wr (w.heap.size + 2) u ((x * C + c) * Q) (fun i => off + P i) ∧ C3 wr w.heap.size (.string nm) (.string t) (.int .i64 a) ∧ C4 wr (w.heap.size + 1) (.string sn) (.int .i64 off) (.int .i64 sz) (.int .i64 FS) ∧ Below w.heap.size w wr) (fun _ i _ => C - (intOf i).toNat)
        case atStart => exact ⟨0, _, by omega, rfl, rfl, by rw [Nat.add_zero]; exact R, Y0.out, Z0.out, B0.out⟩
        case round =>
          obtain ⟨c, u, hc, rfl, rfl, R, Y, Zz, B⟩ := hrel
          by_cases hcn : c < C
          · have c1' : (c : Int) < (Q : Int) := by omega
            have pc := mul_bounds (c : Int) (tz / (Q : Int)) 4 16 (by omega) (by omega) (by omega) (by omega)
            have Y0 : Hid (C3 wr w.heap.size (.string nm) (.string t) (.int .i64 a)) := Y
            have Z0 : Hid (C4 wr (w.heap.size + 1) (.string sn) (.int .i64 off) (.int .i64 sz) (.int .i64 FS)) := Zz
            have B0 : Hid (Below w.heap.size w wr) := B
            have lz : w.heap.size + 2 ≤ wr.heap.size := Zz.hi
            obtain ⟨y0, y1, y2, _, _, _, _⟩ := Y
            obtain ⟨z0, z1, z2, z3, _, _, _, _, _⟩ := Zz
            go_wp2
            go_loopw [11, 16] (fun v i wr => ∃ (q : Nat) (u : Value), q ≤ Q ∧ i = .int .i64 q ∧ u = v ∧ RowI wr (w.heap.size + 2) u ((x * C + c) * Q + q) (fun i => off + P i) ∧ C3 wr w.heap.size (.string nm) (.string t) (.int .i64 a) ∧ C4 wr (w.heap.size + 1) (.string sn) (.int .i64 off) (.int .i64 sz) (.int .i64 FS) ∧ Below w.heap.size w wr) (fun _ i _ => Q - (intOf i).toNat)
            case atStart => exact ⟨0, _, by omega, rfl, rfl, by rw [Nat.add_zero]; exact R, Y0.out, Z0.out, B0.out⟩
            case round =>
              obtain ⟨q, u, hq, rfl, rfl, R, Y, Zz, B⟩ := hrel
              by_cases hqn : q < Q
              · have q1' : (q : Int) < (Q : Int) := by omega
                have hp := HP.out x c q (by omega) hqn
                have ln : (x * C + c) * Q + q ≤ 1100 := by
                  have l1 : x * C ≤ 64 * 4 := Nat.mul_le_mul (by omega) (by omega)
                  have l2 : (x * C + c) * Q ≤ 260 * 4 := Nat.mul_le_mul (by omega) (by omega)
                  omega
                have YX : Hid (C3 wr w.heap.size (.string nm) (.string t) (.int .i64 a)) := Y
                have ZX : Hid (C4 wr (w.heap.size + 1) (.string sn) (.int .i64 off) (.int .i64 sz) (.int .i64 FS)) := Zz
                have HB : Hid (Below w.heap.size w wr) := B
                have lz : w.heap.size + 2 ≤ wr.heap.size := Zz.hi
                obtain ⟨y0, y1, y2, _, _, _, _⟩ := Y
                obtain ⟨z0, z1, z2, z3, _, _, _, _, _⟩ := Zz
                unfold RowI at R
                obtain ⟨n, hne⟩ : ∃ n, (x * C + c) * Q + q = n := ⟨_, rfl⟩
                rw [hne] at hp R ln
                have HNE : Hid ((x * C + c) * Q + q = n) := hne
                clear hne
                have HPP : Hid (off + P n = off + (x : Int) * FS + (c : Int) * (tz / (Q : Int)) + 4 * (q : Int)) := by show _ = _; rw [hp]; omega
                clear hp
                go_wp2_with (first | (go_at_call 44; refine (HV.out _).mono ?_; rintro e w' ⟨rfl, hw⟩; subst w') | (go_at_call 46; refine (HMx.out _).mono ?_; rintro e w' ⟨rfl, hw⟩; subst w') | (at_builtin; refine wpList_append_own _ rfl _ _ 83 rfl (w.heap.size + 2) 3 i0' (.int .i64 0) 1 8 Try.underlying83 hi hz0 hz1 hz2 rfl (by decide) _ _ _ rfl (R.alloc _) ⟨wr.heap.size, 0, none⟩ 1 1 [.int .i64 (off + (x : Int) * FS + (c : Int) * (tz / (Q : Int)) + 4 * (q : Int))] rfl rfl ?c1 ?c2 ?c3 ?c4 ?c5 ?_))
                try
                  case c1 =>
                    intro j u hj
                    match j, hj with
                    | 0, hj => simp at hj; subst hj; simp [Addr.add]
                case c2 => first | (intro u hu; simp at hu; subst hu; rfl) | rfl
                case c3 => unfold maxLen; omega
                case c4 => omega
                case c5 => first | omega | (simp; omega)
                intro v' w4 hown' hgrow hnil
                have far : ∀ g, u.ownBlock = some g → w.heap.size + 2 ≤ g := fun g hg => (R.lt g hg).1
                have R1 : Hid (RowI w4 (w.heap.size + 2) v' (n + 1) (fun i => off + P i)) := by
                  show World.ownsRow _ _ _ _ _ _ _
                  rw [List.range_succ, List.map_append]
                  simp only [List.map_cons, List.map_nil]
                  rw [HPP.out]
                  exact hown'
                have Y1 : Hid (C3 w4 w.heap.size (.string nm) (.string t) (.int .i64 a)) := (YX.out.alloc _).grown hgrow (fun e => by have := far _ e.symm; omega)
                have Z1 : Hid (C4 w4 (w.heap.size + 1) (.string sn) (.int .i64 off) (.int .i64 sz) (.int .i64 FS)) := (ZX.out.next (alloc_b (o := .cells #[.int .i64 (off + (x : Int) * FS + (c : Int) * (tz / (Q : Int)) + 4 * (q : Int))] 3))).grown hgrow (fun e => by have := far _ e.symm; omega)
                have B1 : Hid (Below w.heap.size w w4) := (HB.out.alloc HB.out.size _).grown hgrow (by have := HB.out.size; simp; omega) (fun g hg => by have := far g hg; omega)
                clear hown' hgrow hnil R far
                go_wp2
                go_roundw
                case rel => exact ⟨q + 1, _, by omega, by go_num, rfl, by rw [← Nat.add_assoc, HNE.out]; exact R1.out, Y1.out, Z1.out, B1.out⟩
                case measure => simp [intOf] <;> omega
              · have hqq : q = Q := by omega
                rw [hqq] at R ⊢
                have hq' : ¬ (Q : Int) < (Q : Int) := by omega
                have Yk : Hid (C3 wr w.heap.size (.string nm) (.string t) (.int .i64 a)) := Y
                have Zk : Hid (C4 wr (w.heap.size + 1) (.string sn) (.int .i64 off) (.int .i64 sz) (.int .i64 FS)) := Zz
                have Bk : Hid (Below w.heap.size w wr) := B
                have lz : w.heap.size + 2 ≤ wr.heap.size := Zz.hi
                obtain ⟨y0, y1, y2, _, _, _, _⟩ := Y
                obtain ⟨z0, z1, z2, z3, _, _, _, _, _⟩ := Zz
                go_wp2
                go_roundw
                case rel => exact ⟨c + 1, _, by omega, by go_num, rfl, by rw [← Nat.add_assoc, Nat.succ_mul]; exact R, Yk.out, Zk.out, Bk.out⟩
                case measure => simp [intOf] <;> omega
          · have hcc : c = C := by omega
            have c1' : ¬ (c : Int) < (Q : Int) := by omega
            have R' : Hid (RowI wr (w.heap.size + 2) u ((x + 1) * C * Q) (fun i => off + P i)) := by rw [hcc] at R; rw [Nat.succ_mul]; exact R
            have Yk : Hid (C3 wr w.heap.size (.string nm) (.string t) (.int .i64 a)) := Y
            have Zk : Hid (C4 wr (w.heap.size + 1) (.string sn) (.int .i64 off) (.int .i64 sz) (.int .i64 FS)) := Zz
            have Bk : Hid (Below w.heap.size w wr) := B
            have lz : w.heap.size + 2 ≤ wr.heap.size := Zz.hi
            obtain ⟨y0, y1, y2, _, _, _, _⟩ := Y
            obtain ⟨z0, z1, z2, z3, _, _, _, _, _⟩ := Zz
            go_wp2
            go_roundw
            case rel => exact ⟨x + 1, _, by omega, by go_num, rfl, R'.out, Yk.out, Zk.out, Bk.out⟩
            case measure => simp [intOf] <;> omega
      · have hxx : x = MN := by omega
        have x1 : ¬ (x : Int) < a := by omega
        have eN : CN = x * C * Q := by rw [Hcnt.out, hxx]
        have hR : Hid (RowI wr w.heap.size u CN (fun i => off + P i)) := by
          show World.ownsRow _ _ _ _ _ _ _
          rw [eN]
          exact owns_mono R (by omega)
        clear eN
        go_wp2
        go_ret
        exact ⟨u, rfl, hR.out, B⟩
set_option maxRecDepth 100000 in
set_option maxHeartbeats 4000000 in
theorem places60mo (nm t sn : ByteArray) (a r off sz : Int) (w : World) (hk : kOf t ≤ 8) (hr : 0 ≤ r ∧ r ≤ 2) (a0 : 0 ≤ a) (a1 : a ≤ 64) (o0 : 0 ≤ off) (o1 : off ≤ 200000) (hq : 6 ≤ kOf t) (ha : ¬ 0 < a) : Calls Try.prog 60 #[.agg #[.string nm, .string t, .int .i64 a], .agg #[.string sn, .int .i64 off, .int .i64 sz, .int .i64 (fstr (kOf t) a r)], .int .i64 r] w fun e w' => ∃ v, e = .returned v ∧ RowI w' w.heap.size v (cntN (kOf t) a) (fun i => off + plc (kOf t) a r i) ∧ Below w.heap.size w w' := by
  have fb := f_bounds (kOf t) a r hk hr a0 a1
  have tb := tal_bounds (kOf t) r hk hr
  have qs := quo_st (kOf t) r hr
  have vc := vec_cases (kOf t) hk
  obtain ⟨eC, eQ, hC1, hC4, hQ1, hQ4⟩ := colsN_eq (kOf t) hk
  have HT : Hid (∀ w, Calls Try.prog 14 #[.string t, .int .i64 r] w fun e w' => e = .returned (.tuple #[.int .i64 (tsz (kOf t) r), .int .i64 (tal (kOf t) r)]) ∧ w' = w) := fun w => by
    have h := size14 t r w
    unfold tszR talR at h
    rw [if_pos ⟨hr, hk⟩, if_pos ⟨hr, hk⟩] at h
    exact h
  have HMx : Hid (∀ w, Calls Try.prog 46 #[.string t] w fun e w' => e = .returned (.bool (decide (6 ≤ kOf t ∧ kOf t ≤ 8))) ∧ w' = w) := fun w => matrix46 t w
  have HV : Hid (∀ w, Calls Try.prog 44 #[.string t] w fun e w' => e = .returned (.int .i64 (vecN (kOf t))) ∧ w' = w) := fun w => vec44 t w
  have HP : Hid (∀ x c q, c < colsN (kOf t) → q < numsN (kOf t) → plc (kOf t) a r ((x * colsN (kOf t) + c) * numsN (kOf t) + q) = (x : Int) * fstr (kOf t) a r + (c : Int) * tst (kOf t) r + (q : Int) * wid (kOf t)) := fun x c q hc hq => plc_at (kOf t) a r x c q hc hq
  have hcnt : cntN (kOf t) a = manyN a * colsN (kOf t) * numsN (kOf t) := rfl
  have hmany : (a = 0 → manyN a = 1) ∧ (0 < a → ((manyN a : Nat) : Int) = a) := by
    unfold manyN
    constructor
    · intro h; rw [if_pos h]
    · intro h; rw [if_neg (by omega)]; omega
  have hm64 : manyN a ≤ 64 := by unfold manyN; split <;> omega
  clear eC eQ
  generalize plc (kOf t) a r = P at *
  generalize cntN (kOf t) a = CN at *
  generalize fsz (kOf t) a r = z1 at *
  generalize fal (kOf t) a r = z2 at *
  generalize fstr (kOf t) a r = FS at *
  generalize tst (kOf t) r = TS at *
  generalize tsz (kOf t) r = tz at *
  generalize tal (kOf t) r = ta at *
  generalize wid (kOf t) = W at *
  generalize colsN (kOf t) = C at *
  generalize numsN (kOf t) = Q at *
  generalize manyN a = MN at *
  generalize vecN (kOf t) = NV at *
  generalize kOf t = kt at *
  obtain ⟨i0', hi, hz0, hz1, hz2⟩ := info_parts info3
  have Y2 := (C3.new w (.string nm) (.string t) (.int .i64 a) 61).alloc (.cells #[.string sn, .int .i64 off, .int .i64 sz, .int .i64 FS] 76)
  have Z2 := C4.new (w.alloc (.cells #[.string nm, .string t, .int .i64 a] 61)) (.string sn) (.int .i64 off) (.int .i64 sz) (.int .i64 FS) 76
  rw [World.size_alloc] at Z2
  have B2 : Below w.heap.size w ((w.alloc (.cells #[.string nm, .string t, .int .i64 a] 61)).alloc (.cells #[.string sn, .int .i64 off, .int .i64 sz, .int .i64 FS] 76)) := alloc_b.trans (alloc_b.mono (by simp))
  have HY2 : Hid (C3 _ _ _ _ _) := Y2
  have HZ2 : Hid (C4 _ _ _ _ _ _) := Z2
  have HB2 : Hid (Below _ _ _) := B2
  clear Y2 Z2 B2
  rcases vc with ⟨hk2, hv, hC, hQ⟩ | ⟨hk3, hk5, hv, hC, hW, hQ2⟩ | ⟨hk6, hv, hC, hW, hQ2⟩
  · exfalso; omega
  · exfalso; omega
  · skip
    obtain ⟨hqt, hn2, hn4⟩ := qs hk6 hk
    rw [hv] at HV hqt hn2 hn4
    rw [decide_eq_true (show 6 ≤ kt ∧ kt ≤ 8 from ⟨hk6, hk⟩)] at HMx
    have n0 : ¬ ((Q : Nat) : Int) = 0 := by omega
    subst hW
    subst hqt
    have HcC : Hid (C = Q) := hC
    have hCle : C ≤ Q := by omega
    have hCge : Q ≤ C := by omega
    have Hcnt : Hid (CN = MN * C * Q) := hcnt
    clear qs hv hC hcnt
    have hMa := hmany.1 (by omega)
    subst hMa
    clear hmany hq
    go_enter Try.func60, Try.ntmps60
    go_wp2_with (go_at_call 14; refine (HT.out _).mono ?_; rintro e w' ⟨rfl, hw⟩; subst w')
    go_loopw [11, 12] (fun v i wr => ∃ (x : Nat) (u : Value), x ≤ 1 ∧ i = .int .i64 x ∧ u = v ∧ RowI wr (w.heap.size + 2) u (x * C * Q) (fun i => off + P i) ∧ C3 wr w.heap.size (.string nm) (.string t) (.int .i64 a) ∧ C4 wr (w.heap.size + 1) (.string sn) (.int .i64 off) (.int .i64 sz) (.int .i64 FS) ∧ Below w.heap.size w wr) (fun _ i _ => 1 - (intOf i).toNat)
    case atStart => exact ⟨0, .slice none 0 0, by omega, rfl, rfl, by rw [Nat.zero_mul, Nat.zero_mul]; exact World.ownsRow_nil _ _ _ _, HY2.out, HZ2.out, HB2.out⟩
    case round =>
      obtain ⟨x, u, hx, rfl, rfl, R, Y, Zz, B⟩ := hrel
      by_cases hxn : x < 1
      · have x1 : (x : Int) < 1 := by omega
        have hx0 : x = 0 := by omega
        subst hx0
        have Y0 : Hid (C3 wr w.heap.size (.string nm) (.string t) (.int .i64 a)) := Y
        have Z0 : Hid (C4 wr (w.heap.size + 1) (.string sn) (.int .i64 off) (.int .i64 sz) (.int .i64 FS)) := Zz
        have B0 : Hid (Below w.heap.size w wr) := B
        have lz : w.heap.size + 2 ≤ wr.heap.size := Zz.hi
        obtain ⟨y0, y1, y2, _, _, _, _⟩ := Y
        obtain ⟨z0, z1, z2, z3, _, _, _, _, _⟩ := Zz
        go_wp2_with (first | (go_at_call 44; refine (HV.out _).mono ?_; rintro e w' ⟨rfl, hw⟩; subst w') | (go_at_call 46; refine (HMx.out _).mono ?_; rintro e w' ⟨rfl, hw⟩; subst w'))
        go_loopw [11, 15] (fun v i wr => ∃ (c : Nat) (u : Value), c ≤ C ∧ i = .int .i64 c ∧ u = v ∧ RowI wr (w.heap.size + 2) u ((0 * C + c) * Q) (fun i => off + P i) ∧ C3 wr w.heap.size (.string nm) (.string t) (.int .i64 a) ∧ C4 wr (w.heap.size + 1) (.string sn) (.int .i64 off) (.int .i64 sz) (.int .i64 FS) ∧ Below w.heap.size w wr) (fun _ i _ => C - (intOf i).toNat)
        case atStart => exact ⟨0, _, by omega, rfl, rfl, by rw [Nat.add_zero]; exact R, Y0.out, Z0.out, B0.out⟩
        case round =>
          obtain ⟨c, u, hc, rfl, rfl, R, Y, Zz, B⟩ := hrel
          by_cases hcn : c < C
          · have c1' : (c : Int) < (Q : Int) := by omega
            have pc := mul_bounds (c : Int) (tz / (Q : Int)) 4 16 (by omega) (by omega) (by omega) (by omega)
            have Y0 : Hid (C3 wr w.heap.size (.string nm) (.string t) (.int .i64 a)) := Y
            have Z0 : Hid (C4 wr (w.heap.size + 1) (.string sn) (.int .i64 off) (.int .i64 sz) (.int .i64 FS)) := Zz
            have B0 : Hid (Below w.heap.size w wr) := B
            have lz : w.heap.size + 2 ≤ wr.heap.size := Zz.hi
            obtain ⟨y0, y1, y2, _, _, _, _⟩ := Y
            obtain ⟨z0, z1, z2, z3, _, _, _, _, _⟩ := Zz
            go_wp2
            go_loopw [11, 16] (fun v i wr => ∃ (q : Nat) (u : Value), q ≤ Q ∧ i = .int .i64 q ∧ u = v ∧ RowI wr (w.heap.size + 2) u ((0 * C + c) * Q + q) (fun i => off + P i) ∧ C3 wr w.heap.size (.string nm) (.string t) (.int .i64 a) ∧ C4 wr (w.heap.size + 1) (.string sn) (.int .i64 off) (.int .i64 sz) (.int .i64 FS) ∧ Below w.heap.size w wr) (fun _ i _ => Q - (intOf i).toNat)
            case atStart => exact ⟨0, _, by omega, rfl, rfl, by rw [Nat.add_zero]; exact R, Y0.out, Z0.out, B0.out⟩
            case round =>
              obtain ⟨q, u, hq, rfl, rfl, R, Y, Zz, B⟩ := hrel
              by_cases hqn : q < Q
              · have q1' : (q : Int) < (Q : Int) := by omega
                have hp := HP.out 0 c q (by omega) hqn
                have ln : (0 * C + c) * Q + q ≤ 1100 := by
                  have l1 : 0 * C ≤ 64 * 4 := Nat.mul_le_mul (by omega) (by omega)
                  have l2 : (0 * C + c) * Q ≤ 260 * 4 := Nat.mul_le_mul (by omega) (by omega)
                  omega
                have YX : Hid (C3 wr w.heap.size (.string nm) (.string t) (.int .i64 a)) := Y
                have ZX : Hid (C4 wr (w.heap.size + 1) (.string sn) (.int .i64 off) (.int .i64 sz) (.int .i64 FS)) := Zz
                have HB : Hid (Below w.heap.size w wr) := B
                have lz : w.heap.size + 2 ≤ wr.heap.size := Zz.hi
                obtain ⟨y0, y1, y2, _, _, _, _⟩ := Y
                obtain ⟨z0, z1, z2, z3, _, _, _, _, _⟩ := Zz
                unfold RowI at R
                obtain ⟨n, hne⟩ : ∃ n, (0 * C + c) * Q + q = n := ⟨_, rfl⟩
                rw [hne] at hp R ln
                have HNE : Hid ((0 * C + c) * Q + q = n) := hne
                clear hne
                have HPP : Hid (off + P n = off + (c : Int) * (tz / (Q : Int)) + 4 * (q : Int)) := by show _ = _; rw [hp]; simp only [Int.natCast_zero, Int.zero_mul, Int.zero_add]; omega
                clear hp
                go_wp2_with (first | (go_at_call 44; refine (HV.out _).mono ?_; rintro e w' ⟨rfl, hw⟩; subst w') | (go_at_call 46; refine (HMx.out _).mono ?_; rintro e w' ⟨rfl, hw⟩; subst w') | (at_builtin; refine wpList_append_own _ rfl _ _ 83 rfl (w.heap.size + 2) 3 i0' (.int .i64 0) 1 8 Try.underlying83 hi hz0 hz1 hz2 rfl (by decide) _ _ _ rfl (R.alloc _) ⟨wr.heap.size, 0, none⟩ 1 1 [.int .i64 (off + (c : Int) * (tz / (Q : Int)) + 4 * (q : Int))] rfl rfl ?c1 ?c2 ?c3 ?c4 ?c5 ?_))
                try
                  case c1 =>
                    intro j u hj
                    match j, hj with
                    | 0, hj => simp at hj; subst hj; simp [Addr.add]
                case c2 => first | (intro u hu; simp at hu; subst hu; rfl) | rfl
                case c3 => unfold maxLen; omega
                case c4 => omega
                case c5 => first | omega | (simp; omega)
                intro v' w4 hown' hgrow hnil
                have far : ∀ g, u.ownBlock = some g → w.heap.size + 2 ≤ g := fun g hg => (R.lt g hg).1
                have R1 : Hid (RowI w4 (w.heap.size + 2) v' (n + 1) (fun i => off + P i)) := by
                  show World.ownsRow _ _ _ _ _ _ _
                  rw [List.range_succ, List.map_append]
                  simp only [List.map_cons, List.map_nil]
                  rw [HPP.out]
                  exact hown'
                have Y1 : Hid (C3 w4 w.heap.size (.string nm) (.string t) (.int .i64 a)) := (YX.out.alloc _).grown hgrow (fun e => by have := far _ e.symm; omega)
                have Z1 : Hid (C4 w4 (w.heap.size + 1) (.string sn) (.int .i64 off) (.int .i64 sz) (.int .i64 FS)) := (ZX.out.next (alloc_b (o := .cells #[.int .i64 (off + (c : Int) * (tz / (Q : Int)) + 4 * (q : Int))] 3))).grown hgrow (fun e => by have := far _ e.symm; omega)
                have B1 : Hid (Below w.heap.size w w4) := (HB.out.alloc HB.out.size _).grown hgrow (by have := HB.out.size; simp; omega) (fun g hg => by have := far g hg; omega)
                clear hown' hgrow hnil R far
                go_wp2
                go_roundw
                case rel => exact ⟨q + 1, _, by omega, by go_num, rfl, by rw [← Nat.add_assoc, HNE.out]; exact R1.out, Y1.out, Z1.out, B1.out⟩
                case measure => simp [intOf] <;> omega
              · have hqq : q = Q := by omega
                rw [hqq] at R ⊢
                have hq' : ¬ (Q : Int) < (Q : Int) := by omega
                have Yk : Hid (C3 wr w.heap.size (.string nm) (.string t) (.int .i64 a)) := Y
                have Zk : Hid (C4 wr (w.heap.size + 1) (.string sn) (.int .i64 off) (.int .i64 sz) (.int .i64 FS)) := Zz
                have Bk : Hid (Below w.heap.size w wr) := B
                have lz : w.heap.size + 2 ≤ wr.heap.size := Zz.hi
                obtain ⟨y0, y1, y2, _, _, _, _⟩ := Y
                obtain ⟨z0, z1, z2, z3, _, _, _, _, _⟩ := Zz
                go_wp2
                go_roundw
                case rel => exact ⟨c + 1, _, by omega, by go_num, rfl, by rw [← Nat.add_assoc, Nat.succ_mul]; exact R, Yk.out, Zk.out, Bk.out⟩
                case measure => simp [intOf] <;> omega
          · have hcc : c = C := by omega
            have c1' : ¬ (c : Int) < (Q : Int) := by omega
            have R' : Hid (RowI wr (w.heap.size + 2) u ((0 + 1) * C * Q) (fun i => off + P i)) := by rw [hcc] at R; rw [Nat.succ_mul]; exact R
            have Yk : Hid (C3 wr w.heap.size (.string nm) (.string t) (.int .i64 a)) := Y
            have Zk : Hid (C4 wr (w.heap.size + 1) (.string sn) (.int .i64 off) (.int .i64 sz) (.int .i64 FS)) := Zz
            have Bk : Hid (Below w.heap.size w wr) := B
            have lz : w.heap.size + 2 ≤ wr.heap.size := Zz.hi
            obtain ⟨y0, y1, y2, _, _, _, _⟩ := Y
            obtain ⟨z0, z1, z2, z3, _, _, _, _, _⟩ := Zz
            go_wp2
            go_roundw
            case rel => exact ⟨0 + 1, _, by omega, by go_num, rfl, R'.out, Yk.out, Zk.out, Bk.out⟩
            case measure => simp [intOf] <;> omega
      · have hxx : x = 1 := by omega
        have x1 : ¬ (x : Int) < 1 := by omega
        have eN : CN = x * C * Q := by rw [Hcnt.out, hxx]
        have hR : Hid (RowI wr w.heap.size u CN (fun i => off + P i)) := by
          show World.ownsRow _ _ _ _ _ _ _
          rw [eN]
          exact owns_mono R (by omega)
        clear eN
        go_wp2
        go_ret
        exact ⟨u, rfl, hR.out, B⟩
theorem places60 (nm t sn : ByteArray) (a r off sz : Int) (w : World) (hk : kOf t ≤ 8) (hr : 0 ≤ r ∧ r ≤ 2) (a0 : 0 ≤ a) (a1 : a ≤ 64) (o0 : 0 ≤ off) (o1 : off ≤ 200000) : Calls Try.prog 60 #[.agg #[.string nm, .string t, .int .i64 a], .agg #[.string sn, .int .i64 off, .int .i64 sz, .int .i64 (fstr (kOf t) a r)], .int .i64 r] w fun e w' => ∃ v, e = .returned v ∧ RowI w' w.heap.size v (cntN (kOf t) a) (fun i => off + plc (kOf t) a r i) ∧ Below w.heap.size w w' := by
  by_cases ha : 0 < a
  · rcases (show kOf t ≤ 2 ∨ (3 ≤ kOf t ∧ kOf t ≤ 5) ∨ 6 ≤ kOf t by omega) with h | h | h
    · exact places60sa nm t sn a r off sz w hk hr a0 a1 o0 o1 h ha
    · exact places60va nm t sn a r off sz w hk hr a0 a1 o0 o1 h ha
    · exact places60ma nm t sn a r off sz w hk hr a0 a1 o0 o1 h ha
  · rcases (show kOf t ≤ 2 ∨ (3 ≤ kOf t ∧ kOf t ≤ 5) ∨ 6 ≤ kOf t by omega) with h | h | h
    · exact places60so nm t sn a r off sz w hk hr a0 a1 o0 o1 h ha
    · exact places60vo nm t sn a r off sz w hk hr a0 a1 o0 o1 h ha
    · exact places60mo nm t sn a r off sz w hk hr a0 a1 o0 o1 h ha
end Go.Proofs.Yteakeaclpcgopaa
