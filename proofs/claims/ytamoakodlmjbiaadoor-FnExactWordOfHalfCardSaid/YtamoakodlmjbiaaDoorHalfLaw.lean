/- Proved: for every word h of 32 bits the law FnExactWordOfHalf returns true (WordOfHalf answers as its model) and the argument and the table of forms read afterwards as before; condition: the table of forms reads as the program's text lays it (the card ties it; the pruned copy's other packages are not spoken of). -/
import Derived.Test.YtamoakodlmjbiaaDoorRnd16Up
import Derived.Test.YtamoakodlmjbiaaDoorTold16
import Derived.Test.YtamoakodlmjbiaaDoorHalf
import Derived.Test.YtamoakodlmjbiaaDoorCards
import Derived.Test.YtamoakodlmjbiaaDoorTie
namespace Go.Proofs.YtamoakodlmjbiaaDoor.fnExactWordOfHalf
open Go.ChangeShapes Go.WideShapes Go.ChangeAt Go.RowKit

theorem bitLen_log : ∀ m : Fin 2048, m.val ≠ 0 → Lib.bitLen m.val = Nat.log2 m.val + 1 := by decide +kernel
theorem ipow (n : Nat) : ((2 : Int) ^ n) = ((2 ^ n : Nat) : Int) := by simp

/-- The sizes: m times 2 to (23 - L) has 24 bits, where L is m's last bit. -/
theorem size24 (m : Nat) (m0 : 0 < m) (m1 : m < 2048) : Nat.log2 m ≤ 10 ∧ 8388608 ≤ m * 2 ^ (23 - Nat.log2 m) ∧ m * 2 ^ (23 - Nat.log2 m) < 16777216 := by
  have hL : Nat.log2 m ≤ 10 := by
    have := (Nat.log2_lt (by omega : m ≠ 0)).2 (show m < 2 ^ 11 by omega)
    omega
  have lo := Nat.log2_self_le (by omega : m ≠ 0)
  have hi : m < 2 ^ (Nat.log2 m + 1) := Nat.lt_log2_self
  have e1 : 2 ^ Nat.log2 m * 2 ^ (23 - Nat.log2 m) = 8388608 := by rw [← Nat.pow_add, show Nat.log2 m + (23 - Nat.log2 m) = 23 by omega]
  have e2 : 2 ^ (Nat.log2 m + 1) * 2 ^ (23 - Nat.log2 m) = 16777216 := by rw [← Nat.pow_add, show Nat.log2 m + 1 + (23 - Nat.log2 m) = 24 by omega]
  refine ⟨hL, ?_, ?_⟩
  · rw [← e1]; exact Nat.mul_le_mul_right _ lo
  · rw [← e2]; exact Nat.mul_lt_mul_of_pos_right hi (Nat.two_pow_pos _)

/-- The model's rounding of a half's number: its size and its step. -/
theorem round16 (m : Nat) (n E : Int) (m0 : 0 < m) (m1 : m < 2048) (hn : (m : Int) = n ∨ (m : Int) = -n) (e0 : -24 ≤ E) (e1 : E ≤ 5) (neg : Bool) (v : World) :
    Calls Tryd.prog 76 #[.agg #[.int .i64 n, .bool false, .slice none 0 0, .int .i64 1, .bool false, .slice none 0 0, .int .i64 E], .agg #[.int .i64 24, .int .i64 (-149), .int .i64 104], .int .i64 0, .bool neg] v fun e w' => e = .returned (.tuple #[.int .i64 ((m * 2 ^ (23 - Nat.log2 m) : Nat) : Int), .int .i64 ((Nat.log2 m : Int) + E - 23)]) ∧ Below v.heap.size v w' := by
  obtain ⟨hL, lo, hi⟩ := size24 m m0 m1
  obtain ⟨X, hX⟩ : ∃ X, X = 23 - Nat.log2 m := ⟨_, rfl⟩
  obtain ⟨K, hK⟩ : ∃ K, K = m * 2 ^ X := ⟨_, rfl⟩
  rw [← hX, ← hK] at lo hi
  rw [← hX, ← hK]
  by_cases hE : E < 0
  · obtain ⟨d, hd⟩ : ∃ d : Nat, E = -(d : Int) := ⟨(-E).toNat, by omega⟩
    subst hd
    have hd24 : d ≤ 24 := by omega
    have dd : 2 ^ d ≤ 2 ^ 24 := Nat.pow_le_pow_right (by decide) hd24
    have dp : 0 < 2 ^ d := Nat.two_pow_pos d
    have key : ∀ j : Nat, (m : Int) * 2 ^ (X + d + j) = ((K * 2 ^ d * 2 ^ j : Nat) : Int) := by
      intro j
      rw [ipow, hK, Nat.pow_add, Nat.pow_add]
      push_cast
      rw [Int.mul_assoc, Int.mul_assoc, Int.mul_assoc]
    have at_ : ∀ i : Int, (Nat.log2 m : Int) + -(d : Int) - 26 ≤ i → i ≤ (Nat.log2 m : Int) + -(d : Int) - 23 → ∃ j : Nat, j ≤ 3 ∧ (-i).toNat = X + d + j ∧ (i < (Nat.log2 m : Int) + -(d : Int) - 23 → 1 ≤ j) := by
      intro i a b
      exact ⟨((Nat.log2 m : Int) + -(d : Int) - 23 - i).toNat, by omega, by omega, by omega⟩
    have hes : (-((Nat.log2 m : Int) + -(d : Int) - 23)).toNat = X + d + 0 := by omega
    refine zRound n m (2 ^ d) hn m0 (by omega) dp (by omega) (-(d : Int)) hE (by omega) (by rw [Int.neg_neg, Int.toNat_natCast]; exact ipow d) neg v ((Nat.log2 m : Int) + -(d : Int) - 26) ((Nat.log2 m : Int) + -(d : Int) - 23) K ?_ (by omega) (by omega) (by omega) ?_ ?_ ?_ ?_ ?_ (by omega) (by omega)
    · rw [Nat.log2_two_pow]; omega
    · intro i a b
      obtain ⟨j, j3, hj, j1⟩ := at_ i a (by omega)
      have := j1 b
      rw [hj, key]
      have p2 : 2 ^ 1 ≤ 2 ^ j := Nat.pow_le_pow_right (by decide) this
      have q : K * 2 ^ d * 2 ≤ K * 2 ^ d * 2 ^ j := Nat.mul_le_mul_left _ p2
      have q2 : 8388608 * 2 ^ d ≤ K * 2 ^ d := Nat.mul_le_mul_right _ lo
      generalize K * 2 ^ d * 2 ^ j = A at *
      generalize K * 2 ^ d = B at *
      generalize 2 ^ d = C at *
      omega
    · rw [hes, key]
      have q : K * 2 ^ d < 16777216 * 2 ^ d := Nat.mul_lt_mul_of_pos_right hi dp
      rw [Nat.pow_zero, Nat.mul_one]
      generalize K * 2 ^ d = B at *
      generalize 2 ^ d = C at *
      omega
    · intro i a b
      obtain ⟨j, j3, hj, _⟩ := at_ i a b
      rw [hj, key]
      have p2 : 2 ^ j ≤ 2 ^ 3 := Nat.pow_le_pow_right (by decide) j3
      have q : K * 2 ^ d * 2 ^ j ≤ 16777216 * 16777216 * 8 := Nat.mul_le_mul (Nat.mul_le_mul (by omega) dd) p2
      omega
    · rw [hes, key, Nat.pow_zero, Nat.mul_one]
      rw [← Int.natCast_ediv, Nat.mul_div_cancel _ dp]
    · rw [hes, key, Nat.pow_zero, Nat.mul_one]
      rw [← Int.natCast_emod, Nat.mul_mod_left]; rfl
  · obtain ⟨d, hd⟩ : ∃ d : Nat, E = (d : Int) := ⟨E.toNat, by omega⟩
    subst hd
    have hd5 : d ≤ 5 := by omega
    have dd : 2 ^ d ≤ 2 ^ 5 := Nat.pow_le_pow_right (by decide) hd5
    have dp : 0 < 2 ^ d := Nat.two_pow_pos d
    have key : ∀ j : Nat, ((m * 2 ^ d : Nat) : Int) * 2 ^ (X - d + j) = ((K * 2 ^ j : Nat) : Int) := by
      intro j
      rw [ipow, ← Int.natCast_mul, hK, Nat.pow_add]
      congr 1
      rw [Nat.mul_assoc, ← Nat.mul_assoc (2 ^ d), ← Nat.pow_add, show d + (X - d) = X by omega, ← Nat.mul_assoc]
    have at_ : ∀ i : Int, (Nat.log2 m : Int) + (d : Int) - 26 ≤ i → i ≤ (Nat.log2 m : Int) + (d : Int) - 23 → ∃ j : Nat, j ≤ 3 ∧ (-i).toNat = X - d + j ∧ (i < (Nat.log2 m : Int) + (d : Int) - 23 → 1 ≤ j) := by
      intro i a b
      exact ⟨((Nat.log2 m : Int) + (d : Int) - 23 - i).toNat, by omega, by omega, by omega⟩
    have hes : (-((Nat.log2 m : Int) + (d : Int) - 23)).toNat = X - d + 0 := by omega
    have mb : m * 2 ^ d ≤ 2047 * 32 := Nat.mul_le_mul (by omega) dd
    have mp : 0 < m * 2 ^ d := Nat.mul_pos m0 dp
    have hlog : Nat.log2 (m * 2 ^ d) = Nat.log2 m + d := by
      rw [Nat.log2_eq_iff (by omega)]
      have a1 := Nat.log2_self_le (by omega : m ≠ 0)
      have a2 : m < 2 ^ (Nat.log2 m + 1) := Nat.lt_log2_self
      refine ⟨?_, ?_⟩
      · rw [Nat.pow_add]; exact Nat.mul_le_mul_right _ a1
      · rw [show Nat.log2 m + d + 1 = Nat.log2 m + 1 + d by omega, Nat.pow_add]; exact Nat.mul_lt_mul_of_pos_right a2 dp
    refine zRoundUp n m (m * 2 ^ d) 1 hn m0 (by omega) mp (by omega) (by decide) (by decide) rfl (d : Int) (by omega) (by omega) ((2 ^ d : Nat) : Int) (by rw [Int.toNat_natCast]; exact ipow d) (by push_cast; rfl) (by omega) (by omega) neg v ((Nat.log2 m : Int) + (d : Int) - 26) ((Nat.log2 m : Int) + (d : Int) - 23) K ?_ (by omega) (by omega) (by omega) ?_ ?_ ?_ ?_ ?_ (by omega) (by omega)
    · rw [hlog, show Nat.log2 1 = 0 by decide]; omega
    · intro i a b
      obtain ⟨j, j3, hj, j1⟩ := at_ i a (by omega)
      have := j1 b
      rw [hj, key]
      have p2 : 2 ^ 1 ≤ 2 ^ j := Nat.pow_le_pow_right (by decide) this
      have q : K * 2 ≤ K * 2 ^ j := Nat.mul_le_mul_left _ p2
      generalize K * 2 ^ j = A at *
      omega
    · rw [hes, key, Nat.pow_zero, Nat.mul_one]
      omega
    · intro i a b
      obtain ⟨j, j3, hj, _⟩ := at_ i a b
      rw [hj, key]
      have p2 : 2 ^ j ≤ 2 ^ 3 := Nat.pow_le_pow_right (by decide) j3
      have q : K * 2 ^ j ≤ 16777216 * 8 := Nat.mul_le_mul (by omega) p2
      omega
    · rw [hes, key, Nat.pow_zero, Nat.mul_one]
      simp
    · rw [hes, key, Nat.pow_zero, Nat.mul_one]
      simp

theorem both (h : Int) (h0 : 0 ≤ h) : ∃ R : Int,
    (∀ w : World, Calls Tryd.prog 15 #[.int .u32 h] w fun e w' => e = .returned (.int .u32 R) ∧ Below w.heap.size w w') ∧
    (∀ w : World, Forms w → Calls Tryd.prog 14 #[.int .u32 h] w fun e w' => e = .returned (.int .u32 R) ∧ Below w.heap.size w w') := by
  by_cases hb : 65535 < h
  · exact ⟨0, fun w => sW_big h hb w, fun w G => iW_big h hb w G⟩
  have h1 : h ≤ 65535 := by omega
  by_cases k31 : h / 1024 % 32 = 31
  · refine ⟨_, fun w => sW_31 h h0 h1 k31 w, fun w G => iW_of h _ h1 w G ?_⟩
    by_cases km : 0 < h % 1024
    · rw [if_pos km]
      exact between_3 h h0 (by omega) (by unfold kindH; rw [if_neg (by omega), if_neg (by omega), if_neg (by omega)]) w G
    · rw [if_neg km]
      have := between_2 h h0 (by omega) (by unfold kindH; rw [if_neg (by omega), if_neg (by omega), if_pos (by omega)]) w G
      by_cases hs : 32768 ≤ h
      · rw [if_pos hs]
        rw [show sgn_w (decide (32768 ≤ h)) 2139095040 = 4286578688 by simp [sgn_w, hs]] at this
        exact this
      · rw [if_neg hs]
        rw [show sgn_w (decide (32768 ≤ h)) 2139095040 = 2139095040 by simp [sgn_w, hs]] at this
        exact this
  by_cases k0 : h / 1024 % 32 = 0 ∧ h % 1024 = 0
  · refine ⟨_, fun w => sW_0 h h0 h1 k0.1 k0.2 w, fun w G => iW_of h _ h1 w G ?_⟩
    have := between_0 h h0 (by omega) (by unfold kindH; rw [if_pos (by omega)]) w G
    by_cases hs : 32768 ≤ h
    · rw [if_pos hs]
      rw [show sgn_w (decide (32768 ≤ h)) 0 = 2147483648 by simp [sgn_w, hs]] at this
      exact this
    · rw [if_neg hs]
      rw [show sgn_w (decide (32768 ≤ h)) 0 = 0 by simp [sgn_w, hs]] at this
      exact this
  obtain ⟨m, hm⟩ : ∃ m : Nat, exSh (h % 32768) = m := ⟨(exSh (h % 32768)).toNat, by have : 0 ≤ exSh (h % 32768) := by unfold exSh; split <;> omega
                                                                                    omega⟩
  obtain ⟨E, hE⟩ : ∃ E, exPh (h % 32768) = E := ⟨_, rfl⟩
  have hm1 : (m : Int) = if 0 < h / 1024 % 32 then h % 1024 + 1024 else h % 1024 := by
    rw [← hm]; unfold exSh
    by_cases hx : 0 < h / 1024 % 32
    · rw [if_pos hx, if_pos (by omega)]; omega
    · rw [if_neg hx, if_neg (by omega)]; omega
  have hE1 : E = if 0 < h / 1024 % 32 then h / 1024 % 32 - 1 - 24 else h / 1024 % 32 - 24 := by
    rw [← hE]; unfold exPh
    by_cases hx : 0 < h / 1024 % 32
    · rw [if_pos hx, if_pos (by omega)]; omega
    · rw [if_neg hx, if_neg (by omega)]; omega
  have m0 : 0 < m := by split at hm1 <;> omega
  have m1 : m < 2048 := by split at hm1 <;> omega
  have e0 : -24 ≤ E := by split at hE1 <;> omega
  have e1 : E ≤ 5 := by split at hE1 <;> omega
  obtain ⟨hL, lo, hi⟩ := size24 m m0 m1
  obtain ⟨K, hK⟩ : ∃ K, m * 2 ^ (23 - Nat.log2 m) = K := ⟨_, rfl⟩
  rw [hK] at lo hi
  have hsg : (if decide (32768 ≤ h) = true then (2147483648 : Int) else 0) + ((Nat.log2 m : Int) + E - 23 + 150) * 8388608 + (K : Int) - 8388608 = sgn_w (decide (32768 ≤ h)) ((K : Int) + ((Nat.log2 m : Int) + E - 23 - (-149)) * 8388608) := by
    unfold sgn_w
    by_cases hs : 32768 ≤ h
    · simp only [hs, decide_true, if_true]; omega
    · simp only [hs, decide_false, if_false, Bool.false_eq_true]; omega
  refine ⟨sgn_w (decide (32768 ≤ h)) ((K : Int) + ((Nat.log2 m : Int) + E - 23 - (-149)) * 8388608), fun w => ?_, fun w G => iW_of h _ h1 w G ?_⟩
  · refine sW_num h m E _ h0 h1 (by omega) (by omega) (by omega) hm1 hE1 ?_ ?_ w ?_
    · unfold sgn_w; split <;> omega
    · unfold sgn_w; split <;> omega
    · intro v
      have := zTold (if 32768 ≤ h then -(m : Int) else m) E K ((Nat.log2 m : Int) + E - 23) (decide (32768 ≤ h)) (by by_cases hs : 32768 ≤ h <;> simp [hs] <;> omega) (by omega) (by omega) (by omega) (by omega) v
        (fun v => by
          have := round16 m (if 32768 ≤ h then -(m : Int) else m) E m0 m1 (by by_cases hs : 32768 ≤ h <;> simp [hs]) e0 e1 (decide (32768 ≤ h)) v
          rw [hK] at this
          exact this)
      rw [hsg] at this
      exact this
  · refine between_1 h _ h0 (by omega) (by unfold kindH; rw [if_neg (by omega), if_pos (by omega)]) w G fun v Gv => ?_
    rw [hm, hE]
    have bl := bitLen_log ⟨m, m1⟩ (by simpa using (by omega : m ≠ 0))
    have := rx_up_w (decide (32768 ≤ h)) (m : Int) E 2 false v Gv (by omega) (by omega) (by omega) (by omega) ((Nat.log2 m : Int) + 1) ((Nat.log2 m : Int) + E - 23) (K : Int)
      (by rw [Int.toNat_natCast]; simp only at bl; rw [bl]; push_cast; rfl) (by omega) (by omega) (by omega) (Or.inl (by omega)) (by omega)
      (by rw [show (E - ((Nat.log2 m : Int) + E - 23)).toNat = 23 - Nat.log2 m by omega, ipow, ← Int.natCast_mul, hK]; omega) (by omega) (by omega)
    have ht : told_w 2 (decide (32768 ≤ h)) (K : Int) ((Nat.log2 m : Int) + E - 23) = sgn_w (decide (32768 ≤ h)) ((K : Int) + ((Nat.log2 m : Int) + E - 23 - (-149)) * 8388608) := by
      unfold told_w; rw [if_neg (by omega)]
    rw [ht] at this
    exact this

theorem walk (a0 : Int) (w0 : (Lit.int .u32 a0).wf = true) (w : World) (G : Forms w) :
    Calls Tryd.prog 11 #[.int .u32 a0] w fun e w' => e = .returned (.bool true) ∧ Below w.heap.size w w' := by
  have b0 := bounds_u32 w0
  obtain ⟨R, hs, hi⟩ := both a0 (by omega)
  go_enter Tryd.func11, Tryd.ntmps11
  go_wp2_with (first | (go_at_call 15; refine (hs _).mono ?_; rintro e w1 ⟨rfl, hb1⟩) | (go_at_call 14; refine (hi _ (G.below hb1)).mono ?_; rintro e w2 ⟨rfl, hb2⟩))
  go_ret
  exact ⟨rfl, hb1.trans (hb2.mono hb1.size)⟩
theorem laid_met (os : Os) : laidMet Tryd.prog Rows.fnExactWordOfHalfRow.laid ((laidWorld os).forCall (fun _ _ => 0) ⟨#[], #[.int .u32 0], []⟩).memory :=
  laidMet_of_run' 8 (by kernel_rfl) (by kernel_rfl)
set_option maxRecDepth 100000 in
theorem lifted (os : Os) (started : os.Started) (H : Type) (enc : TypeId × Value → H) :
    ReturnsInHanded {} Tryd.checked os 11 .any (fun w args => (Rows.fnExactWordOfHalfSpec.pre enc Tryd.prog Tryd.f11 [] false w args ∧ laidMetH Tryd.prog Rows.fnExactWordOfHalfRow.laid w) ∧ sizedMet enc Tryd.prog Tryd.f11 (OpenSpec.ofChange Rows.fnExactWordOfHalfSpec) false w args)
      (Rows.fnExactWordOfHalfSpec.post enc Tryd.prog Tryd.f11 false true false false) := by
  refine returnsInHanded_of_change_and (C := Tryd.checked) (X := fun w _ => laidMetH Tryd.prog Rows.fnExactWordOfHalfRow.laid w) (fun _ _ _ hh h => h.of_heap hh) own started (by kernel_rfl) Tryd.func11
    (ChangeSpec.witness_at (enc := enc) (C := Tryd.checked) (os := os) (X := fun w _ => laidMetH Tryd.prog Rows.fnExactWordOfHalfRow.laid w) false (laidWorld os) #[.int .u32 0] 8 rfl (by kernel_rfl) (by kernel_rfl) (by kernel_rfl) (by kernel_rfl) (by kernel_rfl) (laid_met os)) ?_
  intro W base args ds gs before hval0 hW _ _ hL _
  have hval : ∀ (j : Nat) t v, Tryd.f11.params[j]? = some t → args[j]? = some v → Value.okWide Tryd.prog W .any base t v := hval0
  have hW' := hW
  obtain ⟨p, q, hA0, hV0, rfl, hfz, hnd⟩ := hW
  have hA : DataW.TrodAll enc Tryd.prog W 0 (fun _ => true) true Tryd.f11.params.toList args.toList ds p := hA0
  have hV : DataW.TrodVars enc Tryd.prog W (fun _ => true) ["loop.example/g00053/impl.floatForms"] gs q := hV0
  rw [Tryd.params11] at hA hval
  obtain ⟨v0, vs0, d0, ds0, p0, q0, hargs, rfl, rfl, h0, r0⟩ := trodAll_cons hA
  obtain ⟨rfl, rfl, rfl⟩ := trodAll_nil r0
  obtain rfl : args = #[v0] := by cases args; simp_all
  obtain ⟨a0, rfl, rfl, rfl, w0⟩ := open_int Tryd.underlying23 (hval 0 23 v0 rfl rfl) h0
  obtain ⟨g, t, cs, fuel, d, p', rfl, hg, ht, hvar, hd, rfl⟩ := trodVars_one hV
  obtain rfl := Option.some.inj (gTab.symm.trans hg)
  obtain rfl := Option.some.inj (gTabType.symm.trans ht)
  obtain rfl : cs = cells8 := Option.some.inj (hvar.symm.trans (cells_of_laid hL))
  obtain ⟨rfl, rfl⟩ := DataW.Trod.unique (v := .agg cells8) ⟨fuel, hd⟩ ⟨4, reads_table enc W _⟩
  clear hA0 hV0 hval0
  refine (walk a0 w0 W (forms_of_laid hL)).mono fun e W' ⟨he, bel⟩ => ?_
  subst he
  have hv' : W'.var? Tryd.prog "loop.example/g00053/impl.floatForms" = some cells8 := var?_below bel gTab (forms_of_laid hL).pos hvar
  exact ⟨_, rfl, _, _, _, [], [], MemPlace.row ⟨0, 0, none⟩ cells8.size ++ [] ++ [], hW', trodAll_cons_mk (shut_bool Tryd.underlying4 _) trodAll_mk0, (trodAll_cons_mk (shut_int Tryd.underlying23 w0) trodAll_mk0), ⟨0, 50, cells8, 4, [], [], hg, ht, hv', reads_table enc W' _, rfl, rfl⟩, bel.frame _, fun h => by cases h⟩

theorem said : Rows.FnExactWordOfHalfSaid :=
  OpenClaim.holds_of_wide 11 Tryd.f11 rfl rfl rfl rfl rfl rfl rfl ⟨rfl, rfl, rfl, rfl, rfl⟩ rfl rfl rfl rfl rfl (by kernel_rfl) Tryd.func11 (by kernel_rfl)
    (of_decide_eq_true (by kernel_rfl)) (by unfold Func.isWrapper; first | (rw [if_pos (by decide +kernel)]; kernel_rfl) | (rw [if_neg (by decide +kernel)]; exact ⟨rfl, rfl⟩))
    (fun os started H enc _ => lifted os started H enc)

theorem plain (f : FuncId) (fn : Func) (hf : Tryd.pinned.checked.prog.funcNamed "loop.example/g00053/laws.FnExactWordOfHalf" = some f) (hfn : Tryd.pinned.checked.prog.funcs[f]? = some fn) :
    false = Tryd.pinned.checked.prog.looks [] ∧ ∀ (j : Nat) t, fn.params[j]? = some t → Tryd.pinned.checked.prog.wantsStandIn t = false := by
  obtain rfl : f = 11 := Option.some.inj ((show Tryd.prog.funcNamed "loop.example/g00053/laws.FnExactWordOfHalf" = some 11 by kernel_rfl).symm.trans hf) |>.symm
  obtain rfl : fn = Tryd.f11 := (Option.some.inj (Tryd.func11.symm.trans hfn)).symm
  refine ⟨by kernel_rfl, fun j t ht => ?_⟩
  rw [Tryd.params11] at ht
  obtain rfl : t = 23 := by simpa using Array.mem_of_getElem? ht
  exact (show Tryd.prog.wantsStandIn 23 = false by kernel_rfl)

theorem card : Rows.FnExactWordOfHalfCardSaid :=
  Claim7.holds_tied_plain_at .later [] _ _ _ _ said (fun _ h => by cases h) (by kernel_rfl) (fun _ h => by cases h) fnExactWordOfHalf_row_tie rfl ⟨rfl, rfl⟩ (by kernel_rfl) rfl plain (by kernel_rfl)

end Go.Proofs.YtamoakodlmjbiaaDoor.fnExactWordOfHalf
namespace Go.Proofs.YtamoakodlmjbiaaDoor
theorem word_of_half_holds : Rows.FnExactWordOfHalfCardSaid := fnExactWordOfHalf.card
#print axioms word_of_half_holds
end Go.Proofs.YtamoakodlmjbiaaDoor
