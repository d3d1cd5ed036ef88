/- Which number a byte of a struct belongs to, told without a program; where a field's numbers lie; the program's spotAround and slices.Index, the model's l7Bytes; conditions: good fields and a rule. -/
import Derived.Test.YteakeaclpcgopaaPlcM
namespace Go.Proofs.Yteakeaclpcgopaa
open Go.ChangeShapes Go.WideShapes Go.ChangeAt Go.RowKit
set_option linter.unusedVariables false
/-- The first below n at which p holds. -/
def firstH (p : Nat → Bool) : Nat → Option Nat
  | 0 => none
  | n + 1 => match firstH p n with
    | some j => some j
    | none => if p n = true then some n else none
theorem firstH_none (p : Nat → Bool) : ∀ n, (∀ j, j < n → p j = false) → firstH p n = none
  | 0, _ => rfl
  | n + 1, h => by
    rw [firstH, firstH_none p n (fun j hj => h j (by omega))]
    simp [h n (by omega)]
theorem firstH_some (p : Nat → Bool) (k : Nat) (h : ∀ j, j < k → p j = false) (hk : p k = true) : ∀ n, k < n → firstH p n = some k
  | 0, hn => by omega
  | n + 1, hn => by
    rw [firstH]
    by_cases e : k = n
    · subst e
      rw [firstH_none p k h]
      simp [hk]
    · rw [firstH_some p k h hk n (by omega)]
theorem firstH_lt (p : Nat → Bool) : ∀ n k, firstH p n = some k → k < n ∧ p k = true ∧ ∀ j, j < k → p j = false
  | 0, k, h => by simp [firstH] at h
  | n + 1, k, h => by
    rw [firstH] at h
    cases hf : firstH p n with
    | some j =>
      rw [hf] at h
      simp only [Option.some.injEq] at h
      subst h
      have := firstH_lt p n j hf
      exact ⟨by omega, this.2⟩
    | none =>
      rw [hf] at h
      by_cases e : p n = true
      · simp only [e, if_true, Option.some.injEq] at h
        subst h
        refine ⟨by omega, e, fun j hj => ?_⟩
        cases hj' : p j with
        | false => rfl
        | true =>
          exfalso
          have : ∃ i, firstH p n = some i := firstH_ex p n j hj hj'
          obtain ⟨i, hi⟩ := this
          rw [hf] at hi
          cases hi
      · simp [e] at h
where
  firstH_ex (p : Nat → Bool) : ∀ n j, j < n → p j = true → ∃ i, firstH p n = some i
    | 0, j, h, _ => by omega
    | n + 1, j, h, hp => by
      rw [firstH]
      cases hf : firstH p n with
      | some i => exact ⟨i, rfl⟩
      | none =>
        by_cases e : j = n
        · subst e; exact ⟨j, by simp [hp]⟩
        · obtain ⟨i, hi⟩ := firstH_ex p n j (by omega) hp
          rw [hf] at hi
          cases hi
/-- Whether a byte lies in a spot; in a number of a field. -/
def inSpot (T : Nat → ByteArray) (J : Nat → Int) (r b : Int) (i : Nat) : Bool := decide (offF T J r i ≤ b ∧ b < offF T J r i + fsz (kOf (T i)) (J i) r)
def inNum (T : Nat → ByteArray) (J : Nat → Int) (r b : Int) (i j : Nat) : Bool := decide (offF T J r i + plc (kOf (T i)) (J i) r j ≤ b ∧ b < offF T J r i + plc (kOf (T i)) (J i) r j + wid (kOf (T i)))
/-- What ComponentAt answers of good fields and a rule. -/
def compR (K T : Nat → ByteArray) (J : Nat → Int) (r b : Int) (n : Nat) : ByteArray × Int × Int × Bool :=
  match firstH (inSpot T J r b) n with
  | none => (⟨#[]⟩, 0, 0, false)
  | some i => match firstH (inNum T J r b i) (cntN (kOf (T i)) (J i)) with
    | none => (⟨#[]⟩, 0, 0, false)
    | some j => (K i, (j : Int), b - (offF T J r i + plc (kOf (T i)) (J i) r j), true)
theorem inner_le (k : Nat) (r : Int) (h : k ≤ 8) (hr : 0 ≤ r ∧ r ≤ 2) : ((colsN k : Int) - 1) * tst k r + (numsN k : Int) * wid k ≤ tsz k r := by
  have hr3 : r = 0 ∨ r = 1 ∨ r = 2 := by omega
  rcases ten (show k ≤ 9 by omega) with rfl | rfl | rfl | rfl | rfl | rfl | rfl | rfl | rfl | rfl
  all_goals first | (rcases hr3 with rfl | rfl | rfl <;> decide) | omega
theorem cnt_bounds (k : Nat) (a : Int) (h : k ≤ 8) (a0 : 0 ≤ a) (a1 : a ≤ 64) : 1 ≤ cntN k a ∧ cntN k a ≤ 1024 := by
  obtain ⟨_, _, c1, c4, q1, q4⟩ := colsN_eq k h
  have m1 : 1 ≤ manyN a ∧ manyN a ≤ 64 := by unfold manyN; split <;> omega
  unfold cntN
  have l1 := Nat.mul_le_mul m1.2 c4
  have l2 := Nat.mul_le_mul l1 q4
  have g1 := Nat.mul_le_mul m1.1 c1
  have g2 := Nat.mul_le_mul g1 q1
  omega
theorem plc_in (k : Nat) (a r : Int) (h : k ≤ 8) (hr : 0 ≤ r ∧ r ≤ 2) (a0 : 0 ≤ a) (a1 : a ≤ 64) (j : Nat) (hj : j < cntN k a) : 0 ≤ plc k a r j ∧ plc k a r j + wid k ≤ fsz k a r := by
  obtain ⟨_, _, c1, c4, q1, q4⟩ := colsN_eq k h
  have fb := f_bounds k a r h hr a0 a1
  have tb := tal_bounds k r h hr
  have wb := w_bounds k h
  have il := inner_le k r h hr
  have hx : j / (colsN k * numsN k) < manyN a := by
    rw [Nat.div_lt_iff_lt_mul (Nat.mul_pos (by omega) (by omega)), ← Nat.mul_assoc]
    exact hj
  have hc : j / numsN k % colsN k < colsN k := Nat.mod_lt _ (by omega)
  have hq : j % numsN k < numsN k := Nat.mod_lt _ (by omega)
  unfold plc
  generalize j / (colsN k * numsN k) = x at *
  generalize j / numsN k % colsN k = c at *
  generalize j % numsN k = q at *
  have p1 := mul_bounds (x : Int) (fstr k a r) ((manyN a : Int) - 1) (fstr k a r) (by omega) (by omega) (by omega) (by omega)
  have p2 := mul_bounds (c : Int) (tst k r) ((colsN k : Int) - 1) (tst k r) (by omega) (by omega) (by omega) (by omega)
  have p3 := mul_bounds (q : Int) (wid k) ((numsN k : Int) - 1) (wid k) (by omega) (by omega) (by omega) (by omega)
  have e3 : ((numsN k : Int) - 1) * wid k = (numsN k : Int) * wid k - wid k := by rw [Int.sub_mul, Int.one_mul]
  have e1 : ((manyN a : Int) - 1) * fstr k a r = (manyN a : Int) * fstr k a r - fstr k a r := by rw [Int.sub_mul, Int.one_mul]
  refine ⟨by omega, ?_⟩
  by_cases h0 : a = 0
  · have em : manyN a = 1 := by unfold manyN; rw [if_pos h0]
    have ez : fsz k a r = tsz k r := by unfold fsz; rw [if_pos h0]
    rw [em] at e1 p1
    have : ((1 : Nat) : Int) * fstr k a r = fstr k a r := by simp
    omega
  · have em : (manyN a : Int) = a := by unfold manyN; rw [if_neg h0]; omega
    have ez : fsz k a r = a * fstr k a r := by unfold fsz fstr; rw [if_neg h0, if_neg h0]
    have ef : tsz k r ≤ fstr k a r := by
      unfold fstr
      rw [if_neg h0]
      have mb := many_bounds (tal k r) r (by omega) (by omega)
      exact (up_bounds (tsz k r) (many (tal k r) r) (by omega) (by omega) (by omega) (by omega)).1
    rw [em] at e1 p1
    omega
theorem off_end (K T : Nat → ByteArray) (J : Nat → Int) (r : Int) (hr : 0 ≤ r ∧ r ≤ 2) (n : Nat) (h : allG K T J n = true) (h12 : n ≤ 12) (i : Nat) (hi : i < n) : endF T J r i ≤ offF T J r i ∧ 0 ≤ offF T J r i ∧ offF T J r i ≤ 100000 ∧ offF T J r i + fsz (kOf (T i)) (J i) r = endF T J r (i + 1) ∧ endF T J r i ≤ endF T J r (i + 1) := by
  have q := end_bounds K T J r hr n h i (by omega) (by omega)
  have g := allG_at K T J n h i hi
  have f := f_bounds (kOf (T i)) (J i) r g.2.1 hr g.2.2.1 g.2.2.2.1
  have u := up_bounds (endF T J r i) (fal (kOf (T i)) (J i) r) (by omega) (by omega) (by omega) (by omega)
  have e : endF T J r (i + 1) = up (endF T J r i) (fal (kOf (T i)) (J i) r) + fsz (kOf (T i)) (J i) r := rfl
  unfold offF
  refine ⟨by omega, by omega, by omega, by omega, by omega⟩
theorem end_mono (K T : Nat → ByteArray) (J : Nat → Int) (r : Int) (hr : 0 ≤ r ∧ r ≤ 2) (n : Nat) (h : allG K T J n = true) (h12 : n ≤ 12) (i : Nat) : ∀ k, i ≤ k → k ≤ n → endF T J r i ≤ endF T J r k
  | 0, hk, _ => by
    have : i = 0 := by omega
    subst this; omega
  | k + 1, hk, hn => by
    by_cases e : i = k + 1
    · subst e; omega
    · have := end_mono K T J r hr n h h12 i k (by omega) (by omega)
      have := (off_end K T J r hr n h h12 k (by omega)).2.2.2.2
      omega
/-- Two fields have no byte in common. -/
theorem apart (K T : Nat → ByteArray) (J : Nat → Int) (r b : Int) (hr : 0 ≤ r ∧ r ≤ 2) (n : Nat) (h : allG K T J n = true) (h12 : n ≤ 12) (i k : Nat) (hik : i < k) (hk : k < n) (hb : offF T J r k ≤ b) : inSpot T J r b i = false := by
  have a := off_end K T J r hr n h h12 i (by omega)
  have c := off_end K T J r hr n h h12 k hk
  have m := end_mono K T J r hr n h h12 (i + 1) k (by omega) (by omega)
  unfold inSpot
  rw [decide_eq_false]
  omega
theorem num_spot (K T : Nat → ByteArray) (J : Nat → Int) (r b : Int) (hr : 0 ≤ r ∧ r ≤ 2) (n : Nat) (h : allG K T J n = true) (i j : Nat) (hi : i < n) (hj : j < cntN (kOf (T i)) (J i)) (hh : inNum T J r b i j = true) : inSpot T J r b i = true ∧ offF T J r i ≤ b := by
  have g := allG_at K T J n h i hi
  have p := plc_in (kOf (T i)) (J i) r g.2.1 hr g.2.2.1 g.2.2.2.1 j hj
  unfold inNum at hh
  unfold inSpot
  rw [decide_eq_true_eq] at hh ⊢
  omega
theorem comp_hit (K T : Nat → ByteArray) (J : Nat → Int) (r b : Int) (hr : 0 ≤ r ∧ r ≤ 2) (n : Nat) (h : allG K T J n = true) (h12 : n ≤ 12) (i j : Nat) (hi : i < n) (hj : j < cntN (kOf (T i)) (J i)) (hh : inNum T J r b i j = true) (hno : ∀ m, m < j → inNum T J r b i m = false) : compR K T J r b n = (K i, (j : Int), b - (offF T J r i + plc (kOf (T i)) (J i) r j), true) := by
  have s := num_spot K T J r b hr n h i j hi hj hh
  unfold compR
  rw [firstH_some (inSpot T J r b) i (fun m hm => apart K T J r b hr n h h12 m i hm hi s.2) s.1 n hi]
  dsimp only
  rw [firstH_some (inNum T J r b i) j hno hh _ hj]
theorem comp_miss (K T : Nat → ByteArray) (J : Nat → Int) (r b : Int) (n : Nat) (hno : ∀ i, i < n → ∀ j, j < cntN (kOf (T i)) (J i) → inNum T J r b i j = false) : compR K T J r b n = (⟨#[]⟩, 0, 0, false) := by
  unfold compR
  cases hf : firstH (inSpot T J r b) n with
  | none => rfl
  | some i =>
    have := firstH_lt _ _ _ hf
    dsimp only
    rw [firstH_none _ _ (hno i this.1)]
theorem at_spots (K T : Nat → ByteArray) (J : Nat → Int) (r : Int) (n i : Nat) (hi : i < n) : atS0 (spotsL K T J r n) i = K i ∧ atS1 (spotsL K T J r n) i = offF T J r i ∧ atS2 (spotsL K T J r n) i = fsz (kOf (T i)) (J i) r ∧ atS3 (spotsL K T J r n) i = fstr (kOf (T i)) (J i) r := by
  unfold atS0 atS1 atS2 atS3 spotsL
  simp [hi, spotAt, List.getD]
set_option maxRecDepth 100000 in
set_option maxHeartbeats 4000000 in
theorem bytes61 (nm t : ByteArray) (a : Int) (w : World) (hk : kOf t ≤ 8) : Calls Try.prog 61 #[.agg #[.string nm, .string t, .int .i64 a]] w fun e w' => e = .returned (.int .i64 (wid (kOf t))) ∧ Below w.heap.size w w' := by
  have b0 := (is_kOf t).b0
  by_cases h : kOf t = 0
  · rw [h]
    rw [decide_eq_true h] at b0
    go_enter Try.func61, Try.ntmps61
    go_wp2
    go_ret
    exact ⟨rfl, alloc_b⟩
  · rw [decide_eq_false h] at b0
    have hw : wid (kOf t) = 4 := by
      generalize kOf t = k at *
      rcases ten (show k ≤ 9 by omega) with rfl | rfl | rfl | rfl | rfl | rfl | rfl | rfl | rfl | rfl
      all_goals first | rfl | omega
    rw [hw]
    go_enter Try.func61, Try.ntmps61
    go_wp2
    go_ret
    exact ⟨rfl, alloc_b⟩
/-- What spotAround answers of a row of spots. -/
def spotR (F0 : Nat → ByteArray) (F1 F2 F3 : Nat → Int) : Option Nat → Value
  | none => .agg #[.string ⟨#[]⟩, .int .i64 0, .int .i64 0, .int .i64 0]
  | some i => .agg #[.string (F0 i), .int .i64 (F1 i), .int .i64 (F2 i), .int .i64 (F3 i)]
set_option maxRecDepth 100000 in
set_option maxHeartbeats 4000000 in
theorem spot62n (b : Int) (w : World) : Calls Try.prog 62 #[.slice none 0 0, .int .i64 b] w fun e w' => e = .returned (.agg #[.string ⟨#[]⟩, .int .i64 0, .int .i64 0, .int .i64 0]) ∧ Below w.heap.size w w' := by
  go_enter Try.func62, Try.ntmps62
  go_wp2
  refine wp_loop_rounds 1 ?_
  rw [rounds_succ]
  go_wp2
  exact bodyPost_ret (v := .agg #[.string ⟨#[]⟩, .int .i64 0, .int .i64 0, .int .i64 0]) (by simp [results, Try.results62, go_sem]) rfl ⟨rfl, by repeat (first | (with_reducible refine Below.setCell ?_ (by first | omega | (simp; try omega)) _) | (with_reducible refine Below.alloc ?_ (by first | omega | (simp; try omega)) _) | (with_reducible exact Below.refl _ _))⟩
set_option maxRecDepth 100000 in
set_option maxHeartbeats 4000000 in
theorem spot62 (n g cap : Nat) (F0 : Nat → ByteArray) (F1 F2 F3 : Nat → Int) (b : Int) (w : World) (R : RowS w g n F0 F1 F2 F3) (hn : n ≤ 12) (hF : ∀ i, i < n → 0 ≤ F1 i ∧ F1 i ≤ 100000 ∧ 0 ≤ F2 i ∧ F2 i ≤ 10000) : Calls Try.prog 62 #[.slice (some ⟨g, 0, none⟩) n cap, .int .i64 b] w fun e w' => e = .returned (spotR F0 F1 F2 F3 (firstH (fun i => decide (F1 i ≤ b ∧ b < F1 i + F2 i)) n)) ∧ Below w.heap.size w w' := by
  obtain ⟨V, hV⟩ : ∃ V, spotR F0 F1 F2 F3 (firstH (fun i => decide (F1 i ≤ b ∧ b < F1 i + F2 i)) n) = V := ⟨_, rfl⟩
  rw [hV]
  have HVV : Hid (spotR F0 F1 F2 F3 (firstH (fun i => decide (F1 i ≤ b ∧ b < F1 i + F2 i)) n) = V) := hV
  have Y4 := C4.new w (.string ⟨#[]⟩) (.int .i64 0) (.int .i64 0) (.int .i64 0) 76
  have R4 := R.next (alloc_b (o := .cells #[.string ⟨#[]⟩, .int .i64 0, .int .i64 0, .int .i64 0] 76))
  have HF : Hid (∀ i, i < n → 0 ≤ F1 i ∧ F1 i ≤ 100000 ∧ 0 ≤ F2 i ∧ F2 i ≤ 10000) := hF
  clear hV R hF
  go_enter Try.func62, Try.ntmps62
  go_wp2
  go_loopw [9] (fun i wr => ∃ k : Nat, k ≤ n ∧ i = .int .i64 k ∧ Hid (∀ j, j < k → decide (F1 j ≤ b ∧ b < F1 j + F2 j) = false) ∧ C4 wr w.heap.size (.string ⟨#[]⟩) (.int .i64 0) (.int .i64 0) (.int .i64 0) ∧ RowS wr g n F0 F1 F2 F3 ∧ Below w.heap.size w wr) (fun i _ => n - (intOf i).toNat)
  case atStart => exact ⟨0, by omega, rfl, fun j hj => by omega, Y4, R4, alloc_b⟩
  case round =>
    obtain ⟨k, hk, rfl, HK, Y, R, B⟩ := hrel
    by_cases hkn : k < n
    · have i1 : (k : Int) < (n : Int) := by omega
      have i0 : (0 : Int) ≤ (k : Int) := by omega
      have c0 := R.c0 k hkn
      have c1 := R.c1 k hkn
      have c2 := R.c2 k hkn
      have c3 := R.c3 k hkn
      have fb := HF.out k hkn
      have Yn := Y.next (alloc_b (o := .cells #[.string (F0 k), .int .i64 (F1 k), .int .i64 (F2 k), .int .i64 (F3 k)] 76))
      have HRn : Hid (RowS _ g n F0 F1 F2 F3) := R.next (alloc_b (o := .cells #[.string (F0 k), .int .i64 (F1 k), .int .i64 (F2 k), .int .i64 (F3 k)] 76))
      have HYn : Hid (C4 _ _ _ _ _ _) := Yn
      have HBn : Hid (Below w.heap.size w (wr.alloc (.cells #[.string (F0 k), .int .i64 (F1 k), .int .i64 (F2 k), .int .i64 (F3 k)] 76))) := B.alloc B.size _
      have HPut : Hid (C4 _ _ _ _ _ _) := Y.put (.string (F0 k)) (.int .i64 (F1 k)) (.int .i64 (F2 k)) (.int .i64 (F3 k))
      have HPw := HPut.out.next (alloc_b (o := .cells #[.string (F0 k), .int .i64 (F1 k), .int .i64 (F2 k), .int .i64 (F3 k)] 76))
      have HBp : Hid (Below w.heap.size w _) := Below.setCell (Below.setCell (Below.setCell (Below.setCell B (p := ⟨w.heap.size, 0, none⟩) (Nat.le_refl _) (.string (F0 k))) (p := ⟨w.heap.size, 1, none⟩) (Nat.le_refl _) (.int .i64 (F1 k))) (p := ⟨w.heap.size, 2, none⟩) (Nat.le_refl _) (.int .i64 (F2 k))) (p := ⟨w.heap.size, 3, none⟩) (Nat.le_refl _) (.int .i64 (F3 k))
      have ly := Y.hi
      obtain ⟨y0, y1, y2, y3, f0, f1, f2, f3, _⟩ := Y
      obtain ⟨n0, n1, n2, n3, g0, g1, g2, g3, _⟩ := Yn
      by_cases h1 : F1 k ≤ b
      · by_cases h2 : b < F1 k + F2 k
        · have hres : V = .agg #[.string (F0 k), .int .i64 (F1 k), .int .i64 (F2 k), .int .i64 (F3 k)] := by
            rw [← HVV.out, firstH_some _ k HK.out (by simp only [decide_eq_true_eq]; exact ⟨h1, h2⟩) n hkn]
            rfl
          clear HVV
          have q0 := HPut.out.c0
          have q1 := HPut.out.c1
          have q2 := HPut.out.c2
          have q3 := HPut.out.c3
          have HPW : Hid (C4 _ _ _ _ _ _) := HPw
          clear HPw
          go_wp2
          exact bodyPost_ret (v := .agg #[.string (F0 k), .int .i64 (F1 k), .int .i64 (F2 k), .int .i64 (F3 k)]) (by simp [results, Try.results62, go_sem, HPW.out.c0, HPW.out.c1, HPW.out.c2, HPW.out.c3]) rfl ⟨by rw [hres], HBp.out.alloc HBp.out.size _⟩
        · have HK2 : Hid (∀ j, j < k + 1 → decide (F1 j ≤ b ∧ b < F1 j + F2 j) = false) := fun j hj => by
            by_cases e : j = k
            · subst e; exact decide_eq_false (fun h => h2 h.2)
            · exact HK.out j (by omega)
          go_wp2
          go_roundw
          case rel => exact ⟨k + 1, by omega, by go_num, HK2, HYn.out, HRn.out, HBn.out⟩
          case measure => simp [intOf]; omega
      · have HK2 : Hid (∀ j, j < k + 1 → decide (F1 j ≤ b ∧ b < F1 j + F2 j) = false) := fun j hj => by
          by_cases e : j = k
          · subst e; exact decide_eq_false (fun h => h1 h.1)
          · exact HK.out j (by omega)
        go_wp2
        go_roundw
        case rel => exact ⟨k + 1, by omega, by go_num, HK2, HYn.out, HRn.out, HBn.out⟩
        case measure => simp [intOf]; omega
    · have hkk : k = n := by omega
      subst hkk
      have hres : V = .agg #[.string ⟨#[]⟩, .int .i64 0, .int .i64 0, .int .i64 0] := by
        rw [← HVV.out, firstH_none _ k HK.out]
        rfl
      obtain ⟨y0, y1, y2, y3, f0, f1, f2, f3, _⟩ := Y
      have P4 := C4.put ⟨y0, y1, y2, y3, f0, f1, f2, f3, by have := R.hi; have := B.size; omega⟩ (.string ⟨#[]⟩) (.int .i64 0) (.int .i64 0) (.int .i64 0)
      clear HVV
      go_wp2
      exact bodyPost_ret (v := .agg #[.string ⟨#[]⟩, .int .i64 0, .int .i64 0, .int .i64 0]) (by simp [results, Try.results62, go_sem, P4.c0, P4.c1, P4.c2, P4.c3]) rfl ⟨by rw [hres], Below.setCell (Below.setCell (Below.setCell (Below.setCell B (by simp) _) (by simp) _) (by simp) _) (by simp) _⟩
set_option maxRecDepth 100000 in
set_option maxHeartbeats 4000000 in
theorem index63 (n g cap i : Nat) (F0 : Nat → ByteArray) (F1 F2 F3 : Nat → Int) (w : World) (R : RowS w g n F0 F1 F2 F3) (hn : n ≤ 12) (hi : i < n) (hne : ∀ j, j < i → ¬ F0 j = F0 i) : Calls Try.prog 63 #[.slice (some ⟨g, 0, none⟩) n cap, .agg #[.string (F0 i), .int .i64 (F1 i), .int .i64 (F2 i), .int .i64 (F3 i)]] w fun e w' => e = .returned (.int .i64 (i : Nat)) ∧ Below w.heap.size w w' := by
  obtain ⟨a0, ha0⟩ : ∃ x, F0 i = x := ⟨_, rfl⟩
  obtain ⟨a1, ha1⟩ : ∃ x, F1 i = x := ⟨_, rfl⟩
  obtain ⟨a2, ha2⟩ : ∃ x, F2 i = x := ⟨_, rfl⟩
  obtain ⟨a3, ha3⟩ : ∃ x, F3 i = x := ⟨_, rfl⟩
  rw [ha0] at hne
  rw [ha0, ha1, ha2, ha3]
  have HA : Hid (F0 i = a0 ∧ F1 i = a1 ∧ F2 i = a2 ∧ F3 i = a3) := ⟨ha0, ha1, ha2, ha3⟩
  have HNE : Hid (∀ j, j < i → ¬ F0 j = a0) := hne
  have Y3 := C4.new w (.string a0) (.int .i64 a1) (.int .i64 a2) (.int .i64 a3) 76
  have R4 := R.next (alloc_b (o := .cells #[.string a0, .int .i64 a1, .int .i64 a2, .int .i64 a3] 76))
  clear ha0 ha1 ha2 ha3 hne R
  go_enter Try.func63, Try.ntmps63
  go_wp2
  go_loopw [8] (fun iv wr => ∃ k : Nat, k ≤ i ∧ iv = .int .i64 k ∧ C4 wr w.heap.size (.string a0) (.int .i64 a1) (.int .i64 a2) (.int .i64 a3) ∧ RowS wr g n F0 F1 F2 F3 ∧ Below w.heap.size w wr) (fun iv _ => n - (intOf iv).toNat)
  case atStart => exact ⟨0, by omega, rfl, Y3, R4, alloc_b⟩
  case round =>
    obtain ⟨k, hk, rfl, Y, R, B⟩ := hrel
    have hkn : k < n := by omega
    have i1 : (k : Int) < (n : Int) := by omega
    have i0 : (0 : Int) ≤ (k : Int) := by omega
    have c0 := R.c0 k hkn
    have c1 := R.c1 k hkn
    have c2 := R.c2 k hkn
    have c3 := R.c3 k hkn
    have HY : Hid (C4 wr w.heap.size (.string a0) (.int .i64 a1) (.int .i64 a2) (.int .i64 a3)) := Y
    have HRr : Hid (RowS wr g n F0 F1 F2 F3) := R
    obtain ⟨y0, y1, y2, y3, _, _, _, _, _⟩ := Y
    by_cases e : k = i
    · subst e
      rw [HA.out.1] at c0
      rw [HA.out.2.1] at c1
      rw [HA.out.2.2.1] at c2
      rw [HA.out.2.2.2] at c3
      clear R
      go_wp2
      go_region
      all_goals
        go_wp2
        go_ret
        exact ⟨rfl, B.drew⟩
    · have hd := Tk.texts_ne (fun h => HNE.out k (by omega) h.symm)
      have D : Below wr.heap.size wr wr.drew := (Below.refl _ _).drew
      clear R
      go_wp2
      go_region
      all_goals
        go_wp2
        exact ⟨⟨k + 1, by omega, by go_num, HY.out.next D, HRr.out.next D, B.drew⟩, by simp [intOf]; omega⟩
/-- What both sides answer. -/
def compA (K T : Nat → ByteArray) (J : Nat → Int) (r b : Int) (n : Nat) : ByteArray × Int × Int × Bool := if okL K T J r n = true then compR K T J r b n else (⟨#[]⟩, 0, 0, false)
def tupR (R : ByteArray × Int × Int × Bool) : Value := .tuple #[.string R.1, .int .i64 R.2.1, .int .i64 R.2.2.1, .bool R.2.2.2]
theorem ok_good {K T : Nat → ByteArray} {J : Nat → Int} {r : Int} {n : Nat} (h : okL K T J r n = true) : (0 ≤ r ∧ r ≤ 2) ∧ 1 ≤ n ∧ n ≤ 12 ∧ allG K T J n = true := by
  unfold okL goodFs at h
  simp only [Bool.and_eq_true, decide_eq_true_eq] at h
  exact ⟨h.2, h.1.1.1, h.1.1.2, h.1.2⟩
theorem name_pos {s : ByteArray} (h : Tk.goodB s = true) : (s.toList == []) = false := by
  unfold Tk.goodB at h
  split at h
  · rename_i hh
    have : 0 < s.size := hh.1
    rw [ByteArray.toList_eq]
    cases hd : s.data.toList with
    | nil =>
      have e : s.data.toList.length = s.size := by simp
      rw [hd] at e
      have e0 : ([] : List UInt8).length = 0 := rfl
      omega
    | cons x l => rfl
  · cases h
set_option maxRecDepth 100000 in
set_option maxHeartbeats 20000000 in
theorem comp22 (n a : Nat) (K T : Nat → ByteArray) (J : Nat → Int) (r b : Int) (w : World) (X : Row3 w a n K T J) (hn : n ≤ 1048576) (hK : ∀ i, i < n → (K i).size ≤ 1048576) : Calls Try.prog 22 #[.slice (some ⟨a, 0, none⟩) n n, .int .i64 r, .int .i64 b] w fun e w' => e = .returned (tupR (compA K T J r b n)) ∧ Below w.heap.size w w' := by
  have HL := layout16 n a K T J r w X hn hK
  unfold compA
  cases hok : okL K T J r n
  case false =>
    rw [hok] at HL
    have HLL : Hid (Calls Try.prog 16 #[.slice (some ⟨a, 0, none⟩) n n, .int .i64 r] w (SaysL w [] 0 0 false)) := HL
    clear HL
    go_enter Try.func22, Try.ntmps22
    go_wp2_with (go_at_call 16; refine HLL.out.mono ?_; rintro e w1 ⟨v, rfl, V1, gv, B1⟩; obtain ⟨sv, lv, cv, rfl⟩ := V1.is)
    exact bodyPost_ret (v := tupR (⟨#[]⟩, 0, 0, false)) (by simp [results, Try.results22, go_sem, tupR]) rfl ⟨rfl, B1.alloc B1.size _⟩
  rw [hok] at HL
  obtain ⟨hr, n1, n12, hall⟩ := ok_good hok
  have HLL : Hid (Calls Try.prog 16 #[.slice (some ⟨a, 0, none⟩) n n, .int .i64 r] w (SaysL w (spotsL K T J r n) (laySz T J r n) (layAl T J r n) true)) := HL
  clear HL
  generalize laySz T J r n = SZ at *
  generalize layAl T J r n = AL at *
  simp only [if_true]
  obtain ⟨RR, hRR⟩ : ∃ R, compR K T J r b n = R := ⟨_, rfl⟩
  rw [hRR]
  have HRR : Hid (compR K T J r b n = RR) := hRR
  clear hRR
  go_enter Try.func22, Try.ntmps22
  go_wp2_with (go_at_call 16; refine HLL.out.mono ?_; rintro e w1 ⟨v, rfl, V1, gv, B1⟩; (rw [spotsL_len] at V1); (obtain ⟨g, cp, rfl, RS⟩ : ∃ g cp, v = .slice (some ⟨g, 0, none⟩) n cp ∧ RowS w1 g n (atS0 (spotsL K T J r n)) (atS1 (spotsL K T J r n)) (atS2 (spotsL K T J r n)) (atS3 (spotsL K T J r n)) := V1.resolve_left (fun h => by omega)))
  have Y10 := C3.new w1 (.slice (some ⟨g, 0, none⟩) n cp) (.int .i64 SZ) (.int .i64 AL) 34
  have R0 := RS.next (alloc_b (o := .cells #[.slice (some ⟨g, 0, none⟩) n cp, .int .i64 SZ, .int .i64 AL] 34))
  have X0 := (X.next B1).next (alloc_b (o := .cells #[.slice (some ⟨g, 0, none⟩) n cp, .int .i64 SZ, .int .i64 AL] 34))
  have B0 := B1.alloc B1.size (.cells #[.slice (some ⟨g, 0, none⟩) n cp, .int .i64 SZ, .int .i64 AL] 34)
  obtain ⟨o10, ho10⟩ : ∃ x, w1.heap.size = x := ⟨_, rfl⟩
  obtain ⟨W1, hW1⟩ : ∃ x, w1.alloc (.cells #[.slice (some ⟨g, 0, none⟩) n cp, .int .i64 SZ, .int .i64 AL] 34) = x := ⟨_, rfl⟩
  rw [hW1] at Y10 R0 X0 B0 ⊢
  rw [ho10] at Y10 ⊢
  clear hW1 ho10 RS gv V1 B1
  go_loopw [26] (fun i wr => ∃ k : Nat, k ≤ n ∧ i = .int .i64 k ∧ Hid (∀ i, i < k → ∀ j, j < cntN (kOf (T i)) (J i) → inNum T J r b i j = false) ∧ Below W1.heap.size W1 wr) (fun i _ => n - (intOf i).toNat)
  case atStart => exact ⟨0, by omega, rfl, fun i hi => by omega, Below.refl _ _⟩
  case round =>
    obtain ⟨k, hk, rfl, HK, B⟩ := hrel
    by_cases hkn : k < n
    · have i1 : (k : Int) < (n : Int) := by omega
      have i0 : (0 : Int) ≤ (k : Int) := by omega
      obtain ⟨gn, gk, gj0, gj1, gi⟩ := allG_at K T J n hall k hkn
      have oe := off_end K T J r hr n hall n12 k hkn
      have cb := cnt_bounds (kOf (T k)) (J k) gk gj0 gj1
      have wb := w_bounds (kOf (T k)) gk
      have XX := X0.next B
      have c0 := XX.k k hkn
      have c1 := XX.t k hkn
      have c2 := XX.j k hkn
      have RX := R0.next B
      have YX := Y10.next B
      obtain ⟨e0, e1, e2, e3⟩ := at_spots K T J r n k hkn
      have d0 := RX.c0 k hkn
      have d1 := RX.c1 k hkn
      have d2 := RX.c2 k hkn
      have d3 := RX.c3 k hkn
      rw [e0] at d0
      rw [e1] at d1
      rw [e2] at d2
      rw [e3] at d3
      have HPl : Hid (∀ w, Calls Try.prog 60 #[.agg #[.string (K k), .string (T k), .int .i64 (J k)], .agg #[.string (K k), .int .i64 (offF T J r k), .int .i64 (fsz (kOf (T k)) (J k) r), .int .i64 (fstr (kOf (T k)) (J k) r)], .int .i64 r] w fun e w' => ∃ v, e = .returned v ∧ RowI w' w.heap.size v (cntN (kOf (T k)) (J k)) (fun i => offF T J r k + plc (kOf (T k)) (J k) r i) ∧ Below w.heap.size w w') := fun w => places60 (K k) (T k) (K k) (J k) r (offF T J r k) (fsz (kOf (T k)) (J k) r) w gk hr gj0 gj1 (by omega) (by omega)
      have HBy : Hid (∀ w, Calls Try.prog 61 #[.agg #[.string (K k), .string (T k), .int .i64 (J k)]] w fun e w' => e = .returned (.int .i64 (wid (kOf (T k)))) ∧ Below w.heap.size w w') := fun w => bytes61 (K k) (T k) (J k) w gk
      have Hhit : Hid (∀ j, j < cntN (kOf (T k)) (J k) → inNum T J r b k j = true → (∀ m, m < j → inNum T J r b k m = false) → compR K T J r b n = (K k, (j : Int), b - (offF T J r k + plc (kOf (T k)) (J k) r j), true)) := fun j hj hh hno => comp_hit K T J r b hr n hall n12 k j hkn hj hh hno
      have Hin : Hid (∀ j, inNum T J r b k j = decide (offF T J r k + plc (kOf (T k)) (J k) r j ≤ b ∧ b < offF T J r k + plc (kOf (T k)) (J k) r j + wid (kOf (T k)))) := fun j => rfl
      have Hpl : Hid (∀ j, j < cntN (kOf (T k)) (J k) → 0 ≤ plc (kOf (T k)) (J k) r j ∧ plc (kOf (T k)) (J k) r j ≤ 8192) := fun j hj => by
        have p := plc_in (kOf (T k)) (J k) r gk hr gj0 gj1 j hj
        have f := f_bounds (kOf (T k)) (J k) r gk hr gj0 gj1
        omega
      have HO0 : Hid (0 ≤ offF T J r k) := oe.2.1
      have HO1 : Hid (offF T J r k ≤ 100000) := oe.2.2.1
      obtain ⟨CC, hCC⟩ : ∃ x, cntN (kOf (T k)) (J k) = x := ⟨_, rfl⟩
      have HCN : Hid (cntN (kOf (T k)) (J k) = CC) := hCC
      rw [hCC] at HPl Hhit Hpl cb
      clear hCC
      generalize offF T J r k = O at *
      generalize fsz (kOf (T k)) (J k) r = Z at *
      generalize plc (kOf (T k)) (J k) r = P at *
      generalize wid (kOf (T k)) = W at *
      have Y13 := C3.new wr (.string (K k)) (.string (T k)) (.int .i64 (J k)) 61
      have LB := alloc_b (w := wr) (o := .cells #[.string (K k), .string (T k), .int .i64 (J k)] 61)
      have RX2 := RX.next LB
      have t0 := cell_al (x := .cells #[.string (K k), .string (T k), .int .i64 (J k)] 61) d0
      have t1 := cell_al (x := .cells #[.string (K k), .string (T k), .int .i64 (J k)] 61) d1
      have t2 := cell_al (x := .cells #[.string (K k), .string (T k), .int .i64 (J k)] 61) d2
      have t3 := cell_al (x := .cells #[.string (K k), .string (T k), .int .i64 (J k)] 61) d3
      have t4 := cell_al (x := .cells #[.string (K k), .string (T k), .int .i64 (J k)] 61) YX.c0
      clear XX RX e0 e1 e2 e3 gn gi RX2 d0 d1 d2 d3 YX oe
      go_wp2
      obtain ⟨o13, ho13⟩ : ∃ x, wr.heap.size = x := ⟨_, rfl⟩
      obtain ⟨wq, hwq⟩ : ∃ x, wr.alloc (.cells #[.string (K k), .string (T k), .int .i64 (J k)] 61) = x := ⟨_, rfl⟩
      rw [ho13] at Y13 ⊢
      rw [hwq] at Y13 t0 t1 t2 t3 t4 LB ⊢
      have u0 := Y13.c0
      have u1 := Y13.c1
      have u2 := Y13.c2
      go_region_held3 (fun v => v.cell? ⟨o13, 0, none⟩ = some (.string (K k)) ∧ v.cell? ⟨o13, 1, none⟩ = some (.string (T k)) ∧ v.cell? ⟨o13, 2, none⟩ = some (.int .i64 (J k)) ∧ v.cell? ⟨o10, 0, none⟩ = some (.slice (some ⟨g, 0, none⟩) n cp) ∧ v.cell? ⟨g, k * 4, none⟩ = some (.string (K k)) ∧ v.cell? ⟨g, k * 4 + 1, none⟩ = some (.int .i64 O) ∧ v.cell? ⟨g, k * 4 + 2, none⟩ = some (.int .i64 Z) ∧ v.cell? ⟨g, k * 4 + 3, none⟩ = some (.int .i64 (fstr (kOf (T k)) (J k) r))) (first | with_reducible exact ⟨s0, s1, s2, s3, s4, s5, s6, s7⟩ | with_reducible exact ⟨u0, u1, u2, t4, t0, t1, t2, t3⟩ | (go_keep; done)) (first | (go_at_call 60; (have hh := ‹World.cell? _ ⟨o13, 0, none⟩ = some (.string (K k)) ∧ _›); refine (HPl.out _).mono ?_; rintro e w2 ⟨vv, rfl, RI, B2⟩; (have s0 := (B2.cell (p := ⟨o13, 0, none⟩) (World.block_lt_of_cell? _ ⟨o13, 0, none⟩ hh.1)).trans hh.1); (have s1 := (B2.cell (p := ⟨o13, 1, none⟩) (World.block_lt_of_cell? _ ⟨o13, 1, none⟩ hh.2.1)).trans hh.2.1); (have s2 := (B2.cell (p := ⟨o13, 2, none⟩) (World.block_lt_of_cell? _ ⟨o13, 2, none⟩ hh.2.2.1)).trans hh.2.2.1); (have s3 := (B2.cell (p := ⟨o10, 0, none⟩) (World.block_lt_of_cell? _ ⟨o10, 0, none⟩ hh.2.2.2.1)).trans hh.2.2.2.1); (have s4 := (B2.cell (p := ⟨g, k * 4, none⟩) (World.block_lt_of_cell? _ ⟨g, k * 4, none⟩ hh.2.2.2.2.1)).trans hh.2.2.2.2.1); (have s5 := (B2.cell (p := ⟨g, k * 4 + 1, none⟩) (World.block_lt_of_cell? _ ⟨g, k * 4 + 1, none⟩ hh.2.2.2.2.2.1)).trans hh.2.2.2.2.2.1); (have s6 := (B2.cell (p := ⟨g, k * 4 + 2, none⟩) (World.block_lt_of_cell? _ ⟨g, k * 4 + 2, none⟩ hh.2.2.2.2.2.2.1)).trans hh.2.2.2.2.2.2.1); (have s7 := (B2.cell (p := ⟨g, k * 4 + 3, none⟩) (World.block_lt_of_cell? _ ⟨g, k * 4 + 3, none⟩ hh.2.2.2.2.2.2.2)).trans hh.2.2.2.2.2.2.2); (obtain ⟨g2, cp2, rfl, hg2, hg3⟩ := World.ownsRow.form RI (by omega))))
      have OW := Tk.own_owned RI (fun j => .int .i64 (O + P j)) (fun j hj => by simp [hj])
      have hcell : ∀ j, j < CC → w2.cell? ⟨g2, j, none⟩ = some (.int .i64 (O + P j)) := OW.cell
      have hgl : g2 < w2.heap.size := OW.hi
      have HC : Hid (∀ j, j < CC → w2.cell? ⟨g2, j, none⟩ = some (.int .i64 (O + P j))) := hcell
      have b2 : Below wq.heap.size wq w2 := ⟨B2.os, B2.tape, B2.output, B2.size, B2.block⟩
      have B13 : Below W1.heap.size W1 w2 := (B.trans (LB.mono B.size)).trans (b2.mono (by have := B.size; have := LB.size; omega))
      have HB13 : Hid (Below W1.heap.size W1 w2) := B13
      have lo13 : o13 < w2.heap.size := World.block_lt_of_cell? _ ⟨o13, 0, none⟩ s0
      have hO0 : 0 ≤ O := HO0.out
      have hO1 : O ≤ 100000 := HO1.out
      clear OW hcell RI B2 B13 u0 u1 u2 t0 t1 t2 t3 t4 s3 s4 s5 s6 s7 c0 c1 c2 Y13 hg2 hg3
      go_wp2
      go_loopw [40] (fun i wx => ∃ m : Nat, m ≤ CC ∧ i = .int .i64 m ∧ Hid (∀ j, j < m → inNum T J r b k j = false) ∧ Below w2.heap.size w2 wx) (fun i _ => CC - (intOf i).toNat)
      case atStart => exact ⟨0, by omega, rfl, fun j hj => by omega, Below.refl _ _⟩
      case round =>
        obtain ⟨m, hm, rfl, HM, BX⟩ := hrel
        by_cases hmn : m < CC
        · have m1 : (m : Int) < (CC : Int) := by omega
          have m0 : (0 : Int) ≤ (m : Int) := by omega
          have pb := Hpl.out m hmn
          have v0 := (BX.cell (p := ⟨g2, m, none⟩) hgl).trans (HC.out m hmn)
          have v1 := (BX.cell (p := ⟨o13, 0, none⟩) lo13).trans s0
          have v2 := (BX.cell (p := ⟨o13, 1, none⟩) lo13).trans s1
          have v3 := (BX.cell (p := ⟨o13, 2, none⟩) lo13).trans s2
          have hin := Hin.out m
          have HHit := Hhit.out m hmn
          obtain ⟨p, hp⟩ : ∃ p, P m = p := ⟨_, rfl⟩
          rw [hp] at pb v0 hin HHit
          clear hp
          have hb2 : ∀ w' : World, Below wr.heap.size wr w' → w'.cell? ⟨o13, 0, none⟩ = some (.string (K k)) := fun w' bb => (bb.cell (p := ⟨o13, 0, none⟩) (World.block_lt_of_cell? _ ⟨o13, 0, none⟩ v1)).trans v1
          have Hb2 : Hid (∀ w' : World, Below wr.heap.size wr w' → w'.cell? ⟨o13, 0, none⟩ = some (.string (K k))) := hb2
          clear hb2
          by_cases h1 : O + p ≤ b
          · by_cases h2 : b < O + p + W
            · have hres : Hid (RR = (K k, (m : Int), b - (O + p), true)) := by
                show _ = _
                rw [← HRR.out]
                exact HHit (by rw [hin]; exact decide_eq_true ⟨h1, h2⟩) HM.out
              clear hin HHit
              go_wp2_with (go_at_call 61; refine (HBy.out _).mono ?_; rintro e w3 ⟨rfl, B3⟩; have x0 := Hb2.out w3 B3)
              exact bodyPost_ret (v := tupR (K k, (m : Int), b - (O + p), true)) (by simp [results, Try.results22, go_sem, tupR]) rfl ⟨by rw [hres.out], ((B0.trans (HB13.out.mono B0.size)).trans (BX.mono (by have := B0.size; have := HB13.out.size; omega))).trans (B3.mono (by have := B0.size; have := HB13.out.size; have := BX.size; omega))⟩
            · have HM2 : Hid (∀ j, j < m + 1 → inNum T J r b k j = false) := fun j hj => by
                by_cases e : j = m
                · subst e; rw [hin]; exact decide_eq_false (fun h => h2 h.2)
                · exact HM.out j (by omega)
              clear hin HHit
              go_wp2_with (go_at_call 61; refine (HBy.out _).mono ?_; rintro e w3 ⟨rfl, B3⟩)
              go_roundw
              case rel => exact ⟨m + 1, by omega, by go_num, HM2, BX.trans (B3.mono BX.size)⟩
              case measure => simp [intOf]; omega
          · have HM2 : Hid (∀ j, j < m + 1 → inNum T J r b k j = false) := fun j hj => by
              by_cases e : j = m
              · subst e; rw [hin]; exact decide_eq_false (fun h => h1 h.1)
              · exact HM.out j (by omega)
            clear hin HHit
            go_wp2
            go_roundw
            case rel => exact ⟨m + 1, by omega, by go_num, HM2, BX⟩
            case measure => simp [intOf]; omega
        · have hmm : m = CC := by omega
          have m1 : ¬ (m : Int) < (CC : Int) := by omega
          have HK2 : Hid (∀ i, i < k + 1 → ∀ j, j < cntN (kOf (T i)) (J i) → inNum T J r b i j = false) := fun i hi j hj => by
            by_cases e : i = k
            · subst e; exact HM.out j (by rw [hmm, ← HCN.out]; exact hj)
            · exact HK.out i (by omega) j hj
          clear hmm
          go_wp2
          go_roundw
          case rel => exact ⟨k + 1, by omega, by go_num, HK2, HB13.out.trans (BX.mono HB13.out.size)⟩
          case measure => simp [intOf]; omega
    · have hkk : k = n := by omega
      subst hkk
      have hres : RR = (⟨#[]⟩, 0, 0, false) := by rw [← HRR.out]; exact comp_miss K T J r b k HK.out
      clear HRR
      go_wp2
      exact bodyPost_ret (v := tupR (⟨#[]⟩, 0, 0, false)) (by simp [results, Try.results22, go_sem, tupR]) rfl ⟨by rw [hres], B0.trans (B.mono B0.size)⟩
end Go.Proofs.Yteakeaclpcgopaa
