/- The places of a field's numbers (the program's numberPlaces, the model's l7Places): rows of whole numbers, the model's from the struct's head on, the program's from the field's; conditions: a type, a rule and a number of things as said. -/
import Derived.Test.YteakeaclpcgopaaLayM
namespace Go.Proofs.Yteakeaclpcgopaa
open Go.ChangeShapes Go.WideShapes Go.ChangeAt Go.RowKit
set_option linter.unusedVariables false
def colsN (k : Nat) : Nat := [1, 1, 1, 1, 1, 1, 2, 3, 4, 0].getD k 0
def numsN (k : Nat) : Nat := [1, 1, 1, 2, 3, 4, 2, 3, 4, 0].getD k 0
theorem colsN_eq (k : Nat) (h : k ≤ 8) : cols k = (colsN k : Int) ∧ nums k = (numsN k : Int) ∧ 1 ≤ colsN k ∧ colsN k ≤ 4 ∧ 1 ≤ numsN k ∧ numsN k ≤ 4 := by
  rcases ten (show k ≤ 9 by omega) with rfl | rfl | rfl | rfl | rfl | rfl | rfl | rfl | rfl | rfl
  all_goals first | decide | omega
/-- How many things there are. -/
def manyN (a : Int) : Nat := if a = 0 then 1 else a.toNat
/-- How many numbers. -/
def cntN (k : Nat) (a : Int) : Nat := manyN a * colsN k * numsN k
/-- The place of the i-th number, from the field's own place on. -/
def plc (k : Nat) (a r : Int) (i : Nat) : Int := ((i / (colsN k * numsN k) : Nat) : Int) * fstr k a r + ((i / numsN k % colsN k : Nat) : Int) * tst k r + ((i % numsN k : Nat) : Int) * wid k
theorem plc_at (k : Nat) (a r : Int) (t c q : Nat) (hc : c < colsN k) (hq : q < numsN k) : plc k a r ((t * colsN k + c) * numsN k + q) = (t : Int) * fstr k a r + (c : Int) * tst k r + (q : Int) * wid k := by
  unfold plc
  have hq0 : 0 < numsN k := by omega
  have hc0 : 0 < colsN k := by omega
  have e1 : ((t * colsN k + c) * numsN k + q) / numsN k = t * colsN k + c := by
    rw [Nat.mul_comm, Nat.mul_add_div hq0, Nat.div_eq_of_lt hq]; rfl
  have e2 : ((t * colsN k + c) * numsN k + q) % numsN k = q := by
    rw [Nat.mul_comm, Nat.mul_add_mod, Nat.mod_eq_of_lt hq]
  have e3 : (t * colsN k + c) % colsN k = c := by
    rw [Nat.mul_comm, Nat.mul_add_mod, Nat.mod_eq_of_lt hc]
  have e4 : ((t * colsN k + c) * numsN k + q) / (colsN k * numsN k) = t := by
    rw [Nat.mul_comm (colsN k), ← Nat.div_div_eq_div_mul, e1, Nat.mul_comm, Nat.mul_add_div hc0, Nat.div_eq_of_lt hc]; rfl
  rw [e1, e2, e3, e4]
/-- A row of whole numbers that is being made. -/
def RowI (w : World) (B : Nat) (v : Value) (n : Nat) (P : Nat → Int) : Prop := w.ownsRow B 3 1 v n ((List.range n).map fun i => .int .i64 (P i))
theorem owns_mono {w : World} {base base' : Nat} {e : TypeId} {size : Nat} {v : Value} {n : Nat} {xs : List Value} (h : w.ownsRow base e size v n xs) (hb : base' ≤ base) : w.ownsRow base' e size v n xs :=
  ⟨h.1, h.2.imp id fun ⟨g, cap, cur, h1, h2, h3⟩ => ⟨g, cap, cur, h1, Nat.le_trans hb h2, h3⟩⟩
theorem info3 : (Try.prog.info? 3).map (fun i => (i.zero, i.size, i.bytes)) = some (some (.int .i64 0), 1, 8) := by kernel_rfl
theorem w_bounds (k : Nat) (h : k ≤ 8) : 2 ≤ wid k ∧ wid k ≤ 4 := by
  rcases ten (show k ≤ 9 by omega) with rfl | rfl | rfl | rfl | rfl | rfl | rfl | rfl | rfl | rfl
  all_goals first | decide | omega
theorem mul_bounds (x y X Y : Int) (x0 : 0 ≤ x) (x1 : x ≤ X) (y0 : 0 ≤ y) (y1 : y ≤ Y) : 0 ≤ x * y ∧ x * y ≤ X * Y := ⟨Int.mul_nonneg x0 y0, Int.mul_le_mul x1 y1 y0 (by omega)⟩
set_option maxRecDepth 100000 in
set_option maxHeartbeats 4000000 in
theorem places65 (nm t : ByteArray) (a r : Int) (w : World) (hk : kOf t ≤ 8) (hr : 0 ≤ r ∧ r ≤ 2) (a0 : 0 ≤ a) (a1 : a ≤ 64) : Calls Try.prog 65 #[.agg #[.string nm, .string t, .int .i64 a], .int .i64 r] w fun e w' => ∃ v, e = .returned v ∧ RowI w' w.heap.size v (cntN (kOf t) a) (plc (kOf t) a r) ∧ Below w.heap.size w w' := by
  have fb := f_bounds (kOf t) a r hk hr a0 a1
  have tb := tal_bounds (kOf t) r hk hr
  have wb := w_bounds (kOf t) hk
  obtain ⟨eC, eQ, C1, C4, Q1, Q4⟩ := colsN_eq (kOf t) hk
  have H6 : Hid (∀ w, Calls Try.prog 64 #[.string t] w fun e w' => e = .returned (.agg #[.int .i64 ((colsN (kOf t) : Nat) : Int), .int .i64 ((numsN (kOf t) : Nat) : Int), .int .i64 (wid (kOf t))]) ∧ Below w.heap.size w w') := fun w => by rw [← eC, ← eQ]; exact shape64 t w
  have H52 : Hid (∀ w, Calls Try.prog 52 #[.agg #[.string nm, .string t, .int .i64 a], .int .i64 r] w fun e w' => e = .returned (.agg #[.int .i64 (fsz (kOf t) a r), .int .i64 (fal (kOf t) a r), .int .i64 (fstr (kOf t) a r)]) ∧ Below w.heap.size w w') := fun w => field52 nm t a r w hk hr a0 a1
  have H50 : Hid (∀ w, Calls Try.prog 50 #[.string t, .int .i64 r] w fun e w' => e = .returned (.agg #[.int .i64 (tsz (kOf t) r), .int .i64 (tal (kOf t) r), .int .i64 (tst (kOf t) r)]) ∧ Below w.heap.size w w') := fun w => type50 t r w hk hr
  have HP : Hid (∀ x c q, c < colsN (kOf t) → q < numsN (kOf t) → plc (kOf t) a r ((x * colsN (kOf t) + c) * numsN (kOf t) + q) = (x : Int) * fstr (kOf t) a r + (c : Int) * tst (kOf t) r + (q : Int) * wid (kOf t)) := fun x c q hc hq => plc_at (kOf t) a r x c q hc hq
  have hcnt : cntN (kOf t) a = manyN a * colsN (kOf t) * numsN (kOf t) := rfl
  have hmany : max a 1 = ((manyN a : Nat) : Int) := by
    unfold manyN
    split <;> omega
  have hm64 : manyN a ≤ 64 := by unfold manyN; split <;> omega
  clear eC eQ
  generalize plc (kOf t) a r = P at *
  generalize cntN (kOf t) a = CN at *
  generalize fsz (kOf t) a r = z1 at *
  generalize fal (kOf t) a r = z2 at *
  generalize fstr (kOf t) a r = FS at *
  generalize tst (kOf t) r = TS at *
  generalize wid (kOf t) = W at *
  generalize colsN (kOf t) = C at *
  generalize numsN (kOf t) = Q at *
  generalize manyN a = MN at *
  have HM : Hid (max a 1 = (MN : Int)) := hmany
  clear hmany
  obtain ⟨i0', hi, hz0, hz1, hz2⟩ := info_parts info3
  have Y2 := C3.new w (.string nm) (.string t) (.int .i64 a) 61
  have hf1 : ∀ w : World, (Instr.field 73 (.agg #[.int .i64 z1, .int .i64 z2, .int .i64 FS]) 2).run Try.prog w = .ok (.int .i64 FS) w := fun _ => by kernel_rfl
  have hf2 : ∀ w : World, (Instr.field 73 (.agg #[.int .i64 (tsz (kOf t) r), .int .i64 (tal (kOf t) r), .int .i64 TS]) 2).run Try.prog w = .ok (.int .i64 TS) w := fun _ => by kernel_rfl
  go_enter Try.func65, Try.ntmps65
  go_wp2_with (first | (go_at_call 64; refine (H6.out _).mono ?_; rintro e w1 ⟨rfl, B1⟩; (have Y2a := (Y2.next B1).alloc (.cells #[.int .i64 (C : Nat), .int .i64 (Q : Nat), .int .i64 W] 89)); (have Y5 := C3.new w1 (.int .i64 (C : Nat)) (.int .i64 (Q : Nat)) (.int .i64 W) 89); (obtain ⟨c0, c1, c2, _, _, _, l2⟩ := Y2a)) | (go_at_call 52; refine (H52.out _).mono ?_; rintro e w2 ⟨rfl, B2⟩; (have Y2b := ((Y2.next B1).alloc (.cells #[.int .i64 (C : Nat), .int .i64 (Q : Nat), .int .i64 W] 89)).next B2); (have Y5b := Y5.next B2); (obtain ⟨d0, d1, d2, _, _, _, _⟩ := Y2b)) | (go_at_call 50; refine (H50.out _).mono ?_; rintro e w3 ⟨rfl, B3⟩; (have Y2c := (((Y2.next B1).alloc (.cells #[.int .i64 (C : Nat), .int .i64 (Q : Nat), .int .i64 W] 89)).next B2).next B3); (have Y5c := Y5b.next B3); (obtain ⟨e0, e1, e2, _, _, _, l3⟩ := Y2c)))
  rw [HM.out]
  have B03 : Below w.heap.size w w3 := by
    have b := ((alloc_b (w := w) (o := .cells #[.string nm, .string t, .int .i64 a] 61)).trans (B1.mono (by simp)))
    have z1' := b.size
    exact ((b.alloc z1' _).trans (B2.mono (by have := B1.size; simp at *; omega))).trans (B3.mono (by have := B2.size; have := B1.size; simp at *; omega))
  have lo : w.heap.size < w1.heap.size := by have := B1.size; simp at this; omega
  have hi5 := Y5c.hi
  clear c0 c1 c2 d0 d1 d2 e0 e1 e2 Y5 Y5b B1 B2 B3 hf1 hf2
  have YY : C3 w3 w1.heap.size (.int .i64 (C : Nat)) (.int .i64 (Q : Nat)) (.int .i64 W) := Y5c
  go_loopw [8, 27] (fun v i wr => ∃ (x : Nat) (u : Value), x ≤ MN ∧ i = .int .i64 x ∧ u = v ∧ RowI wr (w1.heap.size + 1) u (x * C * Q) P ∧ C3 wr w1.heap.size (.int .i64 (C : Nat)) (.int .i64 (Q : Nat)) (.int .i64 W) ∧ Below w.heap.size w wr) (fun _ i _ => MN - (intOf i).toNat)
  case atStart => exact ⟨0, .slice none 0 0, by omega, rfl, rfl, by rw [Nat.zero_mul, Nat.zero_mul]; exact World.ownsRow_nil _ _ _ _, YY, B03⟩
  case round =>
    obtain ⟨x, u, hx, rfl, rfl, R, Y, B⟩ := hrel
    by_cases hxn : x < MN
    · have x1 : (x : Int) < (MN : Int) := by omega
      have px := mul_bounds (x : Int) FS 64 128 (by omega) (by omega) (by omega) (by omega)
      have YX : C3 wr w1.heap.size (.int .i64 (C : Nat)) (.int .i64 (Q : Nat)) (.int .i64 W) := Y
      obtain ⟨y0, y1, y2, _, _, _, _⟩ := Y
      go_wp2
      go_loopw [8, 32] (fun v i wr => ∃ (c : Nat) (u : Value), c ≤ C ∧ i = .int .i64 c ∧ u = v ∧ RowI wr (w1.heap.size + 1) u ((x * C + c) * Q) P ∧ C3 wr w1.heap.size (.int .i64 (C : Nat)) (.int .i64 (Q : Nat)) (.int .i64 W) ∧ Below w.heap.size w wr) (fun _ i _ => C - (intOf i).toNat)
      case atStart => exact ⟨0, _, by omega, rfl, rfl, by rw [Nat.add_zero]; exact R, YX, B⟩
      case round =>
        obtain ⟨c, u, hc, rfl, rfl, R, Y, B⟩ := hrel
        by_cases hcn : c < C
        · have c1' : (c : Int) < (C : Int) := by omega
          have pc := mul_bounds (c : Int) TS 4 16 (by omega) (by omega) (by omega) (by omega)
          have YX : C3 wr w1.heap.size (.int .i64 (C : Nat)) (.int .i64 (Q : Nat)) (.int .i64 W) := Y
          obtain ⟨y0, y1, y2, _, _, _, _⟩ := Y
          go_wp2
          go_loopw [8, 37] (fun v i wr => ∃ (q : Nat) (u : Value), q ≤ Q ∧ i = .int .i64 q ∧ u = v ∧ RowI wr (w1.heap.size + 1) u ((x * C + c) * Q + q) P ∧ C3 wr w1.heap.size (.int .i64 (C : Nat)) (.int .i64 (Q : Nat)) (.int .i64 W) ∧ Below w.heap.size w wr) (fun _ i _ => Q - (intOf i).toNat)
          case atStart => exact ⟨0, _, by omega, rfl, rfl, by rw [Nat.add_zero]; exact R, YX, B⟩
          case round =>
            obtain ⟨q, u, hq, rfl, rfl, R, Y, B⟩ := hrel
            by_cases hqn : q < Q
            · have q1' : (q : Int) < (Q : Int) := by omega
              have pq := mul_bounds (q : Int) W 4 4 (by omega) (by omega) (by omega) (by omega)
              have hp := HP.out x c q hcn hqn
              have ln : (x * C + c) * Q + q ≤ 1100 := by
                have l1 : x * C ≤ 64 * 4 := Nat.mul_le_mul (by omega) (by omega)
                have l2 : (x * C + c) * Q ≤ 260 * 4 := Nat.mul_le_mul (by omega) (by omega)
                omega
              have HPP : Hid (P ((x * C + c) * Q + q) = (x : Int) * FS + (c : Int) * TS + (q : Int) * W) := hp
              have YX : Hid (C3 wr w1.heap.size (.int .i64 (C : Nat)) (.int .i64 (Q : Nat)) (.int .i64 W)) := Y
              have HB : Hid (Below w.heap.size w wr) := B
              have lz : w1.heap.size + 1 ≤ wr.heap.size := Y.hi
              obtain ⟨y0, y1, y2, _, _, _, _⟩ := Y
              obtain ⟨n, hne⟩ : ∃ n, (x * C + c) * Q + q = n := ⟨_, rfl⟩
              rw [hne] at hp R ln HPP
              have HNE : Hid ((x * C + c) * Q + q = n) := hne
              clear hne
              clear hp
              unfold RowI at R
              go_wp2_with (at_builtin; refine wpList_append_own _ rfl _ _ 83 rfl (w1.heap.size + 1) 3 i0' (.int .i64 0) 1 8 Try.underlying83 hi hz0 hz1 hz2 rfl (by decide) _ _ _ rfl (R.alloc _) ⟨wr.heap.size, 0, none⟩ 1 1 [.int .i64 ((x : Int) * FS + (c : Int) * TS + (q : Int) * W)] rfl rfl ?c1 ?c2 ?c3 ?c4 ?c5 ?_)
              case c1 =>
                intro j u hj
                match j, hj with
                | 0, hj => simp at hj; subst hj; simp [Addr.add]
              case c2 => intro u hu; simp at hu; subst hu; rfl
              case c3 => unfold maxLen; omega
              case c4 => omega
              case c5 => simp; omega
              intro v' w4 hown' hgrow hnil
              have far : ∀ g, u.ownBlock = some g → w1.heap.size + 1 ≤ g := fun g hg => (R.lt g hg).1
              have R1 : Hid (RowI w4 (w1.heap.size + 1) v' (n + 1) P) := by
                show World.ownsRow _ _ _ _ _ _ _
                rw [List.range_succ, List.map_append]
                simp only [List.map_cons, List.map_nil]
                rw [HPP.out]
                exact hown'
              have Y1 : Hid (C3 w4 w1.heap.size (.int .i64 (C : Nat)) (.int .i64 (Q : Nat)) (.int .i64 W)) := (YX.out.alloc _).grown hgrow (fun e => by have := far _ e.symm; omega)
              have B1 : Hid (Below w.heap.size w w4) := (HB.out.alloc HB.out.size _).grown hgrow (by have := HB.out.size; simp; omega) (fun g hg => by have := far g hg; omega)
              clear hown' hgrow hnil R far
              go_wp2
              go_roundw
              case rel => exact ⟨q + 1, _, by omega, by go_num, rfl, by rw [← Nat.add_assoc, HNE.out]; exact R1.out, Y1.out, B1.out⟩
              case measure => simp [intOf]; omega
            · have hqq : q = Q := by omega
              subst hqq
              go_wp2
              go_roundw
              case rel => exact ⟨c + 1, _, by omega, by go_num, rfl, by rw [← Nat.add_assoc, Nat.succ_mul]; exact R, Y, B⟩
              case measure => simp [intOf]; omega
        · have hcc : c = C := by omega
          subst hcc
          go_wp2
          go_roundw
          case rel => exact ⟨x + 1, _, by omega, by go_num, rfl, by rw [Nat.succ_mul]; exact R, Y, B⟩
          case measure => simp [intOf]; omega
    · have hxx : x = MN := by omega
      subst hxx
      go_wp2
      go_ret
      exact ⟨_, rfl, by unfold RowI at R ⊢; rw [hcnt]; exact owns_mono R (by omega), B⟩
end Go.Proofs.Yteakeaclpcgopaa
