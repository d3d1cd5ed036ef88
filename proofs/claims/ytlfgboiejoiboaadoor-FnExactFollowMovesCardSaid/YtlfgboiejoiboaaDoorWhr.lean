/- The program's where: the numbers for which something holds, and the three things that it is asked with. -/
import Derived.Test.YtlfgboiejoiboaaDoorArr
import Derived.Test.YtlfgboiejoiboaaDoorRop
import Derived.Test.YtlfgboiejoiboaaDoorSml
import Derived.Test.YtlfgboiejoiboaaDoorSm2
namespace Go.Proofs.YtlfgboiejoiboaaDoor
open Go.ChangeShapes Go.WideShapes Go.ChangeAt Go.RowKit
set_option linter.unusedVariables false
/-- The numbers below k for which Z holds. -/
def whL (Z : Nat → Bool) : Nat → List Int
  | 0 => []
  | k + 1 => whL Z k ++ (if Z k then [(k : Int)] else [])
theorem whL_mem (Z : Nat → Bool) (t : Int) : ∀ n, t ∈ whL Z n ↔ 0 ≤ t ∧ t < n ∧ Z t.toNat = true
  | 0 => by simp [whL]; omega
  | n + 1 => by
    rw [whL, List.mem_append, whL_mem Z t n]
    cases hz : Z n
    · simp only [Bool.false_eq_true, if_false, List.not_mem_nil, or_false]
      constructor
      · rintro ⟨h1, h2, h3⟩; exact ⟨h1, by omega, h3⟩
      · rintro ⟨h1, h2, h3⟩
        refine ⟨h1, ?_, h3⟩
        by_cases e : t = n
        · subst e; simp [hz] at h3
        · omega
    · simp
      constructor
      · rintro (⟨h1, h2, h3⟩ | rfl)
        · exact ⟨h1, by omega, h3⟩
        · exact ⟨by omega, by omega, by simpa using hz⟩
      · rintro ⟨h1, h2, h3⟩
        by_cases e : t = n
        · exact Or.inr e
        · exact Or.inl ⟨h1, by omega, h3⟩
theorem whL_len (Z : Nat → Bool) : ∀ n, (whL Z n).length ≤ n
  | 0 => by simp [whL]
  | n + 1 => by
    have := whL_len Z n
    rw [whL, List.length_append]
    split <;> simp <;> omega
theorem Ri.own {B : Nat} {w : World} {v : Value} {L : List Int} (h : Ri B w v L) : IOwn B w v L := by
  rcases h.1.2 with ⟨hv, h0⟩ | ⟨g, cap, cur, hv, hb, hg, h1, _⟩
  · exact Or.inl ⟨List.eq_nil_of_length_eq_zero h0, hv⟩
  · refine Or.inr ⟨g, cap, hv, h1, hb, ?_⟩
    have h2 := h.1
    rw [hv] at h2
    exact own_owned h2 _ fun i hi => by simp [il, List.getD, hi]
set_option maxRecDepth 100000 in
set_option maxHeartbeats 4000000 in
theorem where_82 (n a cap : Nat) (g : Nat) (O D A B C X : Nat → Int) (Z : Nat → Bool) (w : World) (R : RowI w a n O D A B C X) (n1 : n ≤ 600) (HG : ∀ i, i < n → ∀ v, Below w.heap.size w v → Calls Tryd.prog 82 #[.int .i64 (i : Int), .agg #[.int .i64 (O i), .int .i64 (D i), .int .i64 (A i), .int .i64 (B i), .int .i64 (C i), .int .u32 (X i)], .pointer (some ⟨g, 0, none⟩)] v fun e w' => e = .returned (.bool (Z i)) ∧ Below v.heap.size v w') : Calls Tryd.prog 81 #[.slice (some ⟨a, 0, none⟩) n cap, .func (.func 82) #[] #[.pointer (some ⟨g, 0, none⟩)]] w fun e w' => ∃ v, e = .returned v ∧ IOwn w.heap.size w' v (whL Z n) ∧ Below w.heap.size w w' := by
  obtain ⟨i3, hi3, hz30, hz31, hz32⟩ := info_parts info3
  have HR : Hid (RowI w a n O D A B C X) := R
  have H : Hid (∀ i, i < n → ∀ v, Below w.heap.size w v → Calls Tryd.prog 82 #[.int .i64 (i : Int), .agg #[.int .i64 (O i), .int .i64 (D i), .int .i64 (A i), .int .i64 (B i), .int .i64 (C i), .int .u32 (X i)], .pointer (some ⟨g, 0, none⟩)] v fun e w' => e = .returned (.bool (Z i)) ∧ Below v.heap.size v w') := HG
  clear R HG
  go_enter Tryd.func81, Tryd.ntmps81
  go_wp2
  go_loopw [5, 10] (fun vv i wr => ∃ (k : Nat) (u : Value), k ≤ n ∧ i = .int .i64 k ∧ u = vv ∧ Hid (Ri w.heap.size wr u (whL Z k)) ∧ Hid (Below w.heap.size w wr)) (fun _ i _ => n - (intOf i).toNat)
  case atStart => exact ⟨0, _, by omega, rfl, rfl, ⟨World.ownsRow_nil _ _ _ _, Nat.le_refl _⟩, Below.refl _ _⟩
  case round =>
    obtain ⟨k, u, hk, rfl, rfl, HU, HB⟩ := hrel
    by_cases hkn : k < n
    · have i1 : (k : Int) < (n : Int) := by omega
      have i0 : (0 : Int) ≤ (k : Int) := by omega
      have RK := HR.out.next HB.out
      have c0 := RK.c0 k hkn
      have c1 := RK.c1 k hkn
      have c2 := RK.c2 k hkn
      have c3 := RK.c3 k hkn
      have c4 := RK.c4 k hkn
      have c5 := RK.c5 k hkn
      have BA : Hid (Below w.heap.size w (wr.alloc (.cells #[.int .i64 (O k), .int .i64 (D k), .int .i64 (A k), .int .i64 (B k), .int .i64 (C k), .int .u32 (X k)] 40))) := HB.out.alloc HB.out.size _
      have UA : Hid (Ri w.heap.size (wr.alloc (.cells #[.int .i64 (O k), .int .i64 (D k), .int .i64 (A k), .int .i64 (B k), .int .i64 (C k), .int .u32 (X k)] 40)) u (whL Z k)) := HU.out.alloc _
      have hg := H.out k hkn _ BA.out
      have HC : Hid (whL Z (k + 1) = whL Z k ++ (if Z k then [(k : Int)] else [])) := rfl
      have HLn : Hid ((whL Z k).length ≤ 600) := by have := whL_len Z k; show _ ≤ _; omega
      clear RK HU HB
      generalize whL Z k = L at UA HC HLn
      cases hf : Z k
      · rw [hf] at hg HC
        have HC : Hid (whL Z (k + 1) = L) := by have := HC.out; show _ = _; rw [this]; simp
        clear hf
        go_wp2_with (go_at_call 82; refine hg.mono ?_; rintro e w1 ⟨rfl, B1⟩)
        go_roundw
        case rel => exact ⟨k + 1, _, by omega, by go_num, rfl, by rw [HC.out]; exact UA.out.next B1, BA.out.trans (B1.mono BA.out.size)⟩
        case measure => simp [intOf]; omega
      · rw [hf] at hg HC
        have HC : Hid (whL Z (k + 1) = L ++ [(k : Int)]) := HC
        clear hf
        go_wp2_with (first | (go_at_call 82; refine hg.mono ?_; rintro e w1 ⟨rfl, B1⟩) | (at_builtin; refine wpList_append_own _ rfl _ _ 54 rfl w.heap.size 3 i3 (.int .i64 0) 1 8 Tryd.underlying54 hi3 hz30 hz31 hz32 rfl (by decide) _ _ _ rfl ((UA.out.next B1).alloc _).1 ⟨_, 0, none⟩ 1 1 [.int .i64 (k : Int)] rfl rfl ?_ ?_ ?_ ?_ ?_ ?_))
        · intro j u hj
          match j, hj with
          | 0, hj => simp at hj; subst hj; simp [Addr.add]
        · intro u hu; simp at hu; subst hu; rfl
        · have := HLn.out; unfold maxLen; omega
        · have := HLn.out; omega
        · have := BA.out.size; have := B1.size; simp at *; omega
        intro v3 w3 hown hgrow _
        have B3 : Hid (Below w.heap.size w w3) := ((BA.out.trans (B1.mono BA.out.size)).alloc (by have := BA.out.size; have := B1.size; omega) _).grown hgrow (by have := BA.out.size; have := B1.size; simp at *; omega) (fun q hq => (UA.out.lt q hq).1)
        have U3 : Hid (Ri w.heap.size w3 v3 (whL Z (k + 1))) := by
          show Ri _ _ _ _
          rw [HC.out]
          refine ⟨?_, B3.out.size⟩
          rw [List.length_append, il_app]
          exact hown
        clear hown hgrow UA BA
        go_wp2
        go_roundw
        case rel => exact ⟨k + 1, _, by omega, by go_num, rfl, U3, B3⟩
        case measure => simp [intOf]; omega
    · obtain rfl : k = n := by omega
      have i1 : ¬ (k : Int) < (k : Int) := by omega
      go_wp2
      go_ret
      exact ⟨_, rfl, HU.out.own, HB.out⟩
set_option maxRecDepth 100000 in
set_option maxHeartbeats 4000000 in
theorem where_84 (n a cap : Nat) (g : Nat) (O D A B C X : Nat → Int) (Z : Nat → Bool) (w : World) (R : RowI w a n O D A B C X) (n1 : n ≤ 600) (HG : ∀ i, i < n → ∀ v, Below w.heap.size w v → Calls Tryd.prog 84 #[.int .i64 (i : Int), .agg #[.int .i64 (O i), .int .i64 (D i), .int .i64 (A i), .int .i64 (B i), .int .i64 (C i), .int .u32 (X i)], .pointer (some ⟨g, 0, none⟩)] v fun e w' => e = .returned (.bool (Z i)) ∧ Below v.heap.size v w') : Calls Tryd.prog 81 #[.slice (some ⟨a, 0, none⟩) n cap, .func (.func 84) #[] #[.pointer (some ⟨g, 0, none⟩)]] w fun e w' => ∃ v, e = .returned v ∧ IOwn w.heap.size w' v (whL Z n) ∧ Below w.heap.size w w' := by
  obtain ⟨i3, hi3, hz30, hz31, hz32⟩ := info_parts info3
  have HR : Hid (RowI w a n O D A B C X) := R
  have H : Hid (∀ i, i < n → ∀ v, Below w.heap.size w v → Calls Tryd.prog 84 #[.int .i64 (i : Int), .agg #[.int .i64 (O i), .int .i64 (D i), .int .i64 (A i), .int .i64 (B i), .int .i64 (C i), .int .u32 (X i)], .pointer (some ⟨g, 0, none⟩)] v fun e w' => e = .returned (.bool (Z i)) ∧ Below v.heap.size v w') := HG
  clear R HG
  go_enter Tryd.func81, Tryd.ntmps81
  go_wp2
  go_loopw [5, 10] (fun vv i wr => ∃ (k : Nat) (u : Value), k ≤ n ∧ i = .int .i64 k ∧ u = vv ∧ Hid (Ri w.heap.size wr u (whL Z k)) ∧ Hid (Below w.heap.size w wr)) (fun _ i _ => n - (intOf i).toNat)
  case atStart => exact ⟨0, _, by omega, rfl, rfl, ⟨World.ownsRow_nil _ _ _ _, Nat.le_refl _⟩, Below.refl _ _⟩
  case round =>
    obtain ⟨k, u, hk, rfl, rfl, HU, HB⟩ := hrel
    by_cases hkn : k < n
    · have i1 : (k : Int) < (n : Int) := by omega
      have i0 : (0 : Int) ≤ (k : Int) := by omega
      have RK := HR.out.next HB.out
      have c0 := RK.c0 k hkn
      have c1 := RK.c1 k hkn
      have c2 := RK.c2 k hkn
      have c3 := RK.c3 k hkn
      have c4 := RK.c4 k hkn
      have c5 := RK.c5 k hkn
      have BA : Hid (Below w.heap.size w (wr.alloc (.cells #[.int .i64 (O k), .int .i64 (D k), .int .i64 (A k), .int .i64 (B k), .int .i64 (C k), .int .u32 (X k)] 40))) := HB.out.alloc HB.out.size _
      have UA : Hid (Ri w.heap.size (wr.alloc (.cells #[.int .i64 (O k), .int .i64 (D k), .int .i64 (A k), .int .i64 (B k), .int .i64 (C k), .int .u32 (X k)] 40)) u (whL Z k)) := HU.out.alloc _
      have hg := H.out k hkn _ BA.out
      have HC : Hid (whL Z (k + 1) = whL Z k ++ (if Z k then [(k : Int)] else [])) := rfl
      have HLn : Hid ((whL Z k).length ≤ 600) := by have := whL_len Z k; show _ ≤ _; omega
      clear RK HU HB
      generalize whL Z k = L at UA HC HLn
      cases hf : Z k
      · rw [hf] at hg HC
        have HC : Hid (whL Z (k + 1) = L) := by have := HC.out; show _ = _; rw [this]; simp
        clear hf
        go_wp2_with (go_at_call 84; refine hg.mono ?_; rintro e w1 ⟨rfl, B1⟩)
        go_roundw
        case rel => exact ⟨k + 1, _, by omega, by go_num, rfl, by rw [HC.out]; exact UA.out.next B1, BA.out.trans (B1.mono BA.out.size)⟩
        case measure => simp [intOf]; omega
      · rw [hf] at hg HC
        have HC : Hid (whL Z (k + 1) = L ++ [(k : Int)]) := HC
        clear hf
        go_wp2_with (first | (go_at_call 84; refine hg.mono ?_; rintro e w1 ⟨rfl, B1⟩) | (at_builtin; refine wpList_append_own _ rfl _ _ 54 rfl w.heap.size 3 i3 (.int .i64 0) 1 8 Tryd.underlying54 hi3 hz30 hz31 hz32 rfl (by decide) _ _ _ rfl ((UA.out.next B1).alloc _).1 ⟨_, 0, none⟩ 1 1 [.int .i64 (k : Int)] rfl rfl ?_ ?_ ?_ ?_ ?_ ?_))
        · intro j u hj
          match j, hj with
          | 0, hj => simp at hj; subst hj; simp [Addr.add]
        · intro u hu; simp at hu; subst hu; rfl
        · have := HLn.out; unfold maxLen; omega
        · have := HLn.out; omega
        · have := BA.out.size; have := B1.size; simp at *; omega
        intro v3 w3 hown hgrow _
        have B3 : Hid (Below w.heap.size w w3) := ((BA.out.trans (B1.mono BA.out.size)).alloc (by have := BA.out.size; have := B1.size; omega) _).grown hgrow (by have := BA.out.size; have := B1.size; simp at *; omega) (fun q hq => (UA.out.lt q hq).1)
        have U3 : Hid (Ri w.heap.size w3 v3 (whL Z (k + 1))) := by
          show Ri _ _ _ _
          rw [HC.out]
          refine ⟨?_, B3.out.size⟩
          rw [List.length_append, il_app]
          exact hown
        clear hown hgrow UA BA
        go_wp2
        go_roundw
        case rel => exact ⟨k + 1, _, by omega, by go_num, rfl, U3, B3⟩
        case measure => simp [intOf]; omega
    · obtain rfl : k = n := by omega
      have i1 : ¬ (k : Int) < (k : Int) := by omega
      go_wp2
      go_ret
      exact ⟨_, rfl, HU.out.own, HB.out⟩
set_option maxRecDepth 100000 in
set_option maxHeartbeats 4000000 in
theorem where_86 (n a cap : Nat) (O D A B C X : Nat → Int) (Z : Nat → Bool) (w : World) (R : RowI w a n O D A B C X) (n1 : n ≤ 600) (HG : ∀ i, i < n → ∀ v, Below w.heap.size w v → Calls Tryd.prog 86 #[.int .i64 (i : Int), .agg #[.int .i64 (O i), .int .i64 (D i), .int .i64 (A i), .int .i64 (B i), .int .i64 (C i), .int .u32 (X i)]] v fun e w' => e = .returned (.bool (Z i)) ∧ Below v.heap.size v w') : Calls Tryd.prog 81 #[.slice (some ⟨a, 0, none⟩) n cap, .func (.func 86) #[] #[]] w fun e w' => ∃ v, e = .returned v ∧ IOwn w.heap.size w' v (whL Z n) ∧ Below w.heap.size w w' := by
  obtain ⟨i3, hi3, hz30, hz31, hz32⟩ := info_parts info3
  have HR : Hid (RowI w a n O D A B C X) := R
  have H : Hid (∀ i, i < n → ∀ v, Below w.heap.size w v → Calls Tryd.prog 86 #[.int .i64 (i : Int), .agg #[.int .i64 (O i), .int .i64 (D i), .int .i64 (A i), .int .i64 (B i), .int .i64 (C i), .int .u32 (X i)]] v fun e w' => e = .returned (.bool (Z i)) ∧ Below v.heap.size v w') := HG
  clear R HG
  go_enter Tryd.func81, Tryd.ntmps81
  go_wp2
  go_loopw [5, 10] (fun vv i wr => ∃ (k : Nat) (u : Value), k ≤ n ∧ i = .int .i64 k ∧ u = vv ∧ Hid (Ri w.heap.size wr u (whL Z k)) ∧ Hid (Below w.heap.size w wr)) (fun _ i _ => n - (intOf i).toNat)
  case atStart => exact ⟨0, _, by omega, rfl, rfl, ⟨World.ownsRow_nil _ _ _ _, Nat.le_refl _⟩, Below.refl _ _⟩
  case round =>
    obtain ⟨k, u, hk, rfl, rfl, HU, HB⟩ := hrel
    by_cases hkn : k < n
    · have i1 : (k : Int) < (n : Int) := by omega
      have i0 : (0 : Int) ≤ (k : Int) := by omega
      have RK := HR.out.next HB.out
      have c0 := RK.c0 k hkn
      have c1 := RK.c1 k hkn
      have c2 := RK.c2 k hkn
      have c3 := RK.c3 k hkn
      have c4 := RK.c4 k hkn
      have c5 := RK.c5 k hkn
      have BA : Hid (Below w.heap.size w (wr.alloc (.cells #[.int .i64 (O k), .int .i64 (D k), .int .i64 (A k), .int .i64 (B k), .int .i64 (C k), .int .u32 (X k)] 40))) := HB.out.alloc HB.out.size _
      have UA : Hid (Ri w.heap.size (wr.alloc (.cells #[.int .i64 (O k), .int .i64 (D k), .int .i64 (A k), .int .i64 (B k), .int .i64 (C k), .int .u32 (X k)] 40)) u (whL Z k)) := HU.out.alloc _
      have hg := H.out k hkn _ BA.out
      have HC : Hid (whL Z (k + 1) = whL Z k ++ (if Z k then [(k : Int)] else [])) := rfl
      have HLn : Hid ((whL Z k).length ≤ 600) := by have := whL_len Z k; show _ ≤ _; omega
      clear RK HU HB
      generalize whL Z k = L at UA HC HLn
      cases hf : Z k
      · rw [hf] at hg HC
        have HC : Hid (whL Z (k + 1) = L) := by have := HC.out; show _ = _; rw [this]; simp
        clear hf
        go_wp2_with (go_at_call 86; refine hg.mono ?_; rintro e w1 ⟨rfl, B1⟩)
        go_roundw
        case rel => exact ⟨k + 1, _, by omega, by go_num, rfl, by rw [HC.out]; exact UA.out.next B1, BA.out.trans (B1.mono BA.out.size)⟩
        case measure => simp [intOf]; omega
      · rw [hf] at hg HC
        have HC : Hid (whL Z (k + 1) = L ++ [(k : Int)]) := HC
        clear hf
        go_wp2_with (first | (go_at_call 86; refine hg.mono ?_; rintro e w1 ⟨rfl, B1⟩) | (at_builtin; refine wpList_append_own _ rfl _ _ 54 rfl w.heap.size 3 i3 (.int .i64 0) 1 8 Tryd.underlying54 hi3 hz30 hz31 hz32 rfl (by decide) _ _ _ rfl ((UA.out.next B1).alloc _).1 ⟨_, 0, none⟩ 1 1 [.int .i64 (k : Int)] rfl rfl ?_ ?_ ?_ ?_ ?_ ?_))
        · intro j u hj
          match j, hj with
          | 0, hj => simp at hj; subst hj; simp [Addr.add]
        · intro u hu; simp at hu; subst hu; rfl
        · have := HLn.out; unfold maxLen; omega
        · have := HLn.out; omega
        · have := BA.out.size; have := B1.size; simp at *; omega
        intro v3 w3 hown hgrow _
        have B3 : Hid (Below w.heap.size w w3) := ((BA.out.trans (B1.mono BA.out.size)).alloc (by have := BA.out.size; have := B1.size; omega) _).grown hgrow (by have := BA.out.size; have := B1.size; simp at *; omega) (fun q hq => (UA.out.lt q hq).1)
        have U3 : Hid (Ri w.heap.size w3 v3 (whL Z (k + 1))) := by
          show Ri _ _ _ _
          rw [HC.out]
          refine ⟨?_, B3.out.size⟩
          rw [List.length_append, il_app]
          exact hown
        clear hown hgrow UA BA
        go_wp2
        go_roundw
        case rel => exact ⟨k + 1, _, by omega, by go_num, rfl, U3, B3⟩
        case measure => simp [intOf]; omega
    · obtain rfl : k = n := by omega
      have i1 : ¬ (k : Int) < (k : Int) := by omega
      go_wp2
      go_ret
      exact ⟨_, rfl, HU.out.own, HB.out⟩
set_option maxRecDepth 100000 in
set_option maxHeartbeats 2000000 in
theorem not82 (k g : Nat) (o d a b c x : Int) (S : Nat → Bool) (w : World) (hk : k < 600) (OS : Own w g 600 fun i => .bool (S i)) : Calls Tryd.prog 82 #[.int .i64 (k : Int), .agg #[.int .i64 o, .int .i64 d, .int .i64 a, .int .i64 b, .int .i64 c, .int .u32 x], .pointer (some ⟨g, 0, none⟩)] w fun e w' => e = .returned (.bool (!S k)) ∧ Below w.heap.size w w' := by
  have i0 : (0 : Int) ≤ (k : Int) := by omega
  have i1 : (k : Int) < 600 := by omega
  have ck := (OS.next (w' := w.alloc (.cells #[.int .i64 o, .int .i64 d, .int .i64 a, .int .i64 b, .int .i64 c, .int .u32 x] 40)) ((Below.refl _ _).alloc (Nat.le_refl _) _)).cell k hk
  clear OS
  generalize S k = b0 at ck ⊢
  go_enter Tryd.func82, Tryd.ntmps82
  go_wp2
  go_ret
  exact ⟨rfl, (Below.refl _ _).alloc (Nat.le_refl _) _⟩
set_option maxRecDepth 100000 in
set_option maxHeartbeats 2000000 in
theorem writes85 (o : Int) (w : World) : Calls Tryd.prog 85 #[.int .i64 o] w fun e w' => e = .returned (.bool (nmd o 0)) ∧ Below w.heap.size w w' := by
  have h := fields37 o w
  have hx := ixb0
  go_enter Tryd.func85, Tryd.ntmps85
  go_wp2_with (go_at_call 90; refine h.mono ?_; rintro e w1 ⟨rfl, B1⟩)
  go_ret
  exact ⟨rfl, B1⟩
set_option maxRecDepth 100000 in
set_option maxHeartbeats 2000000 in
theorem unread84 (k g : Nat) (o d a b c x : Int) (S : Nat → Bool) (w : World) (d0 : 0 ≤ d) (d1 : d < 600) (OS : Own w g 600 fun i => .bool (S i)) : Calls Tryd.prog 84 #[.int .i64 (k : Int), .agg #[.int .i64 o, .int .i64 d, .int .i64 a, .int .i64 b, .int .i64 c, .int .u32 x], .pointer (some ⟨g, 0, none⟩)] w fun e w' => e = .returned (.bool (nmd o 0 && !S d.toNat)) ∧ Below w.heap.size w w' := by
  have BA : Hid (Below w.heap.size w (w.alloc (.cells #[.int .i64 o, .int .i64 d, .int .i64 a, .int .i64 b, .int .i64 c, .int .u32 x] 40))) := (Below.refl _ _).alloc (Nat.le_refl _) _
  have h := writes85 o (w.alloc (.cells #[.int .i64 o, .int .i64 d, .int .i64 a, .int .i64 b, .int .i64 c, .int .u32 x] 40))
  have HO : Hid (Own (w.alloc (.cells #[.int .i64 o, .int .i64 d, .int .i64 a, .int .i64 b, .int .i64 c, .int .u32 x] 40)) g 600 fun i => .bool (S i)) := OS.next ((Below.refl _ _).alloc (Nat.le_refl _) _)
  have HC1 : Hid ((w.alloc (.cells #[.int .i64 o, .int .i64 d, .int .i64 a, .int .i64 b, .int .i64 c, .int .u32 x] 40)).cell? ⟨w.heap.size, 1, none⟩ = some (.int .i64 d)) := by show _ = _; simp
  clear OS
  cases hn : nmd o 0
  · rw [hn] at h
    go_enter Tryd.func84, Tryd.ntmps84
    go_wp2_with (go_at_call 85; refine h.mono ?_; rintro e w1 ⟨rfl, B1⟩)
    go_ret
    exact ⟨rfl, BA.out.trans (B1.mono BA.out.size)⟩
  · rw [hn] at h
    have HS : Hid (S d.toNat = S d.toNat) := rfl
    go_enter Tryd.func84, Tryd.ntmps84
    go_wp2_with (go_at_call 85; refine h.mono ?_; rintro e w1 ⟨rfl, B1⟩; have ck := (HO.out.next B1).cell d.toNat (by omega); have c1 := (B1.cell (p := ⟨w.heap.size, 1, none⟩) (by simp)).trans HC1.out)
    go_ret
    exact ⟨rfl, BA.out.trans (B1.mono BA.out.size)⟩
set_option maxRecDepth 100000 in
set_option maxHeartbeats 2000000 in
theorem idle86 (k : Nat) (o d a b c x : Int) (w : World) : Calls Tryd.prog 86 #[.int .i64 (k : Int), .agg #[.int .i64 o, .int .i64 d, .int .i64 a, .int .i64 b, .int .i64 c, .int .u32 x]] w fun e w' => e = .returned (.bool (o == 2 && d == a)) ∧ Below w.heap.size w w' := by
  cases h2 : (o == 2)
  · go_enter Tryd.func86, Tryd.ntmps86
    go_wp2
    go_ret
    exact ⟨rfl, (Below.refl _ _).alloc (Nat.le_refl _) _⟩
  · go_enter Tryd.func86, Tryd.ntmps86
    go_wp2
    go_ret
    exact ⟨rfl, (Below.refl _ _).alloc (Nat.le_refl _) _⟩
end Go.Proofs.YtlfgboiejoiboaaDoor
