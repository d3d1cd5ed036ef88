/- The model's l13Next (the numbers that may come next) and l13List (the numbers of those that are true). -/
import Derived.Test.YtmeokhppaekhpaaDoorBgm
import Derived.Test.YtmeokhppaekhpaaDoorLvm
namespace Go.Proofs.YtmeokhppaekhpaaDoor
open Go.ChangeShapes Go.WideShapes Go.ChangeAt Go.RowKit
set_option linter.unusedVariables false
/-- The numbers that may come next, the one right behind first. -/
def nxL (o a b c : Int) (k n : Nat) : List Int := (if o = 8 ∨ o = 11 ∨ n ≤ k + 1 then [] else [((k + 1 : Nat) : Int)]) ++ tgL o a b c
theorem nx_suc (o a b c : Int) (k n t : Nat) (ht : t < n) : (t : Int) ∈ nxL o a b c k n ↔ (t : Int) ∈ sucL o a b c k := by
  unfold nxL sucL
  by_cases h8 : o = 8
  · rw [if_pos (Or.inl h8), if_pos (Or.inl h8)]; simp
  by_cases h11 : o = 11
  · rw [if_pos (Or.inr (Or.inl h11)), if_pos (Or.inr h11)]; simp
  rw [if_neg (show ¬ (o = 8 ∨ o = 11) by omega)]
  by_cases hn : n ≤ k + 1
  · rw [if_pos (Or.inr (Or.inr hn))]
    simp only [List.nil_append, List.mem_append, List.mem_singleton]
    constructor
    · exact Or.inl
    · rintro (h | h)
      · exact h
      · omega
  · rw [if_neg (show ¬ (o = 8 ∨ o = 11 ∨ n ≤ k + 1) by omega)]
    simp only [List.mem_append, List.mem_singleton]
    exact Or.comm
theorem nx_len (o a b c : Int) (k n : Nat) : (nxL o a b c k n).length ≤ 3 := by
  unfold nxL
  rw [List.length_append]
  have := tg_len o a b c
  split <;> simp <;> omega
set_option maxRecDepth 100000 in
set_option maxHeartbeats 4000000 in
theorem next63 (n a cap k : Nat) (O D A B C X : Nat → Int) (w : World) (R : RowI w a n O D A B C X) (hk : k < n) (n1 : n ≤ 1000) : Calls Tryd.prog 33 #[.slice (some ⟨a, 0, none⟩) n cap, .int .i64 (k : Int)] w fun e w' => ∃ u, e = .returned u ∧ Ri w.heap.size w' u (nxL (O k) (A k) (B k) (C k) k n) ∧ Below w.heap.size w w' := by
  obtain ⟨i3, hi3, hz30, hz31, hz32⟩ := info_parts info3
  have c0 := R.c0 k hk
  have c1 := R.c1 k hk
  have c2 := R.c2 k hk
  have c3 := R.c3 k hk
  have c4 := R.c4 k hk
  have c5 := R.c5 k hk
  have HR : Hid (RowI w a n O D A B C X) := R
  have q0 : (k : Int) < (n : Int) := by omega
  have q1 : (0 : Int) ≤ (k : Int) := by omega
  have wk : wrap64 ((k : Int) + 1) = (k : Int) + 1 := by unfold wrap64; omega
  have R0 : ∀ v : World, w.heap.size ≤ v.heap.size → Ri w.heap.size v (.slice none 0 0) [] := fun v hv => ⟨World.ownsRow_nil v w.heap.size 3 1, hv⟩
  clear R
  by_cases h8 : O k = 8
  · have HL : Hid (nxL (O k) (A k) (B k) (C k) k n = [A k]) := by show _ = _; unfold nxL tgL; rw [if_pos (Or.inl h8), if_pos h8]; rfl
    rw [HL.out]
    have h43 := fun v => tg_jump (D k) (A k) (B k) (C k) (X k) v
    rw [h8] at c0
    clear h8 HL
    go_enter Tryd.func33, Tryd.ntmps33
    go_wp2_with (first | (go_at_call 57; refine (h43 _).mono ?_; rintro e w2 ⟨gt, rfl, ct1, B2⟩) | (at_builtin; refine wpList_append_own _ rfl _ _ 40 rfl w.heap.size 3 i3 (.int .i64 0) 1 8 Tryd.underlying40 hi3 hz30 hz31 hz32 rfl (by decide) _ _ _ rfl (World.ownsRow_nil w2 w.heap.size 3 1) ⟨gt, 0, none⟩ 1 1 [.int .i64 (A k)] rfl rfl ?a1 ?a2 ?a3 ?a4 ?a5 ?_))
    case a1 =>
      intro j u hj
      match j, hj with
      | 0, hj => simp at hj; subst hj; simpa [Addr.add] using ct1
    case a2 => intro u hu; simp at hu; subst hu; rfl
    case a3 => unfold maxLen; simp
    case a4 => simp
    case a5 => have := B2.size; simp at *; omega
    intro v3 w3 hown hgrow _
    have R3 := (R0 w2 B2.size).more (M := [A k]) rfl hown hgrow.size
    have B3 : Below w.heap.size w w3 := B2.grown hgrow B2.size (fun q hq => by cases hq)
    clear hown hgrow B2
    go_wp2
    go_ret
    exact ⟨_, rfl, R3, B3⟩
  by_cases h11 : O k = 11
  · have HL : Hid (nxL (O k) (A k) (B k) (C k) k n = []) := by show _ = _; unfold nxL tgL; rw [if_pos (Or.inr (Or.inl h11)), if_neg h8, if_neg (by omega)]; rfl
    rw [HL.out]
    have h43 := fun v => tg_none 11 (D k) (A k) (B k) (C k) (X k) v (by decide) (by decide)
    rw [h11] at c0
    clear h11 h8 HL
    go_enter Tryd.func33, Tryd.ntmps33
    go_wp2_with (first | (go_at_call 57; refine (h43 _).mono ?_; rintro e w2 ⟨rfl, B2⟩) | (at_builtin; refine wpList_append_own_none rfl _ _ 40 rfl w.heap.size 3 i3 1 Tryd.underlying40 hi3 _ _ _ rfl (World.ownsRow_nil w2 w.heap.size 3 1) rfl ?_))
    go_ret
    exact ⟨_, rfl, R0 w2 B2.size, B2⟩
  have f8 : (O k == 8) = false := by simp [h8]
  have f8' : (O k != 8) = true := by simp [h8]
  have f11 : (O k == 11) = false := by simp [h11]
  have f11' : (O k != 11) = true := by simp [h11]
  by_cases hn : n ≤ k + 1
  · have q2 : ¬ (k : Int) + 1 < (n : Int) := by omega
    by_cases h9 : O k = 9
    · have HL : Hid (nxL (O k) (A k) (B k) (C k) k n = [B k, C k]) := by show _ = _; unfold nxL tgL; rw [if_pos (Or.inr (Or.inr hn)), if_neg h8, if_pos h9]; rfl
      rw [HL.out]
      have h43 := fun v => tg_zer (D k) (A k) (B k) (C k) (X k) v
      rw [h9] at c0
      clear h9 h11 h8 HL f8 f8' f11 f11'
      go_enter Tryd.func33, Tryd.ntmps33
      go_wp2_with (first | (go_at_call 57; refine (h43 _).mono ?_; rintro e w2 ⟨gt, rfl, ⟨ct1, ct2⟩, B2⟩) | (at_builtin; refine wpList_append_own _ rfl _ _ 40 rfl w.heap.size 3 i3 (.int .i64 0) 1 8 Tryd.underlying40 hi3 hz30 hz31 hz32 rfl (by decide) _ _ _ rfl (World.ownsRow_nil w2 w.heap.size 3 1) ⟨gt, 0, none⟩ 2 2 [.int .i64 (B k), .int .i64 (C k)] rfl rfl ?a1 ?a2 ?a3 ?a4 ?a5 ?_))
      case a1 =>
        intro j u hj
        match j, hj with
        | 0, hj => simp at hj; subst hj; simpa [Addr.add] using ct1
        | 1, hj => simp at hj; subst hj; simpa [Addr.add] using ct2
      case a2 => intro u hu; simp at hu; rcases hu with rfl | rfl <;> rfl
      case a3 => unfold maxLen; simp
      case a4 => simp
      case a5 => have := B2.size; simp at *; omega
      intro v3 w3 hown hgrow _
      have R3 := (R0 w2 B2.size).more (M := [B k, C k]) rfl hown hgrow.size
      have B3 : Below w.heap.size w w3 := B2.grown hgrow B2.size (fun q hq => by cases hq)
      clear hown hgrow B2
      go_wp2
      go_ret
      exact ⟨_, rfl, R3, B3⟩
    · have HL : Hid (nxL (O k) (A k) (B k) (C k) k n = []) := by show _ = _; unfold nxL tgL; rw [if_pos (Or.inr (Or.inr hn)), if_neg h8, if_neg h9]; rfl
      rw [HL.out]
      have h43 := fun v => tg_none (O k) (D k) (A k) (B k) (C k) (X k) v h8 h9
      clear HL
      go_enter Tryd.func33, Tryd.ntmps33
      go_wp2_with (first | (go_at_call 57; refine (h43 _).mono ?_; rintro e w2 ⟨rfl, B2⟩) | (at_builtin; refine wpList_append_own_none rfl _ _ 40 rfl w.heap.size 3 i3 1 Tryd.underlying40 hi3 _ _ _ rfl (World.ownsRow_nil w2 w.heap.size 3 1) rfl ?_))
      go_ret
      exact ⟨_, rfl, R0 w2 B2.size, B2⟩
  · have q2 : (k : Int) + 1 < (n : Int) := by omega
    have HL0 : Hid (nxL (O k) (A k) (B k) (C k) k n = [((k : Int) + 1)] ++ tgL (O k) (A k) (B k) (C k)) := by show _ = _; unfold nxL; rw [if_neg (by omega)]; rfl
    have B1 : ∀ o, Below w.heap.size w (w.alloc o) := fun o => (Below.refl _ _).alloc (Nat.le_refl _) o
    by_cases h9 : O k = 9
    · have HL : Hid (nxL (O k) (A k) (B k) (C k) k n = [((k : Int) + 1)] ++ [B k, C k]) := by show _ = _; rw [HL0.out]; unfold tgL; rw [if_neg h8, if_pos h9]
      rw [HL.out]
      have h43 := fun v => tg_zer (D k) (A k) (B k) (C k) (X k) v
      rw [h9] at c0
      have ho := h9
      clear h9 h11 h8 HL HL0 f8 f8' f11 f11'
      go_enter Tryd.func33, Tryd.ntmps33
      go_wp2_with (at_builtin; refine wpList_append_own _ rfl _ _ 40 rfl w.heap.size 3 i3 (.int .i64 0) 1 8 Tryd.underlying40 hi3 hz30 hz31 hz32 rfl (by decide) _ _ _ rfl (World.ownsRow_nil _ w.heap.size 3 1) ⟨w.heap.size, 0, none⟩ 1 1 [.int .i64 ((k : Int) + 1)] rfl rfl ?b1 ?b2 ?b3 ?b4 ?b5 ?_)
      case b1 =>
        intro j u hj
        match j, hj with
        | 0, hj => simp at hj; subst hj; simp [Addr.add]
      case b2 => intro u hu; simp at hu; subst hu; rfl
      case b3 => unfold maxLen; simp
      case b4 => simp
      case b5 => simp
      intro v3 w3 hown hgrow _
      have R3 : Ri w.heap.size w3 v3 [((k : Int) + 1)] := (R0 (w.alloc (.cells #[.int .i64 ((k : Int) + 1)] 3)) (by simp)).more (M := [((k : Int) + 1)]) rfl hown hgrow.size
      have B3 : Below w.heap.size w w3 := (B1 _).grown hgrow (by simp) (fun q hq => by cases hq)
      clear hown hgrow c0 c1 c2 c3 c4 c5
      have RK := HR.out.next B3
      have c0 := RK.c0 k hk
      rw [ho] at c0
      have c1 := RK.c1 k hk
      have c2 := RK.c2 k hk
      have c3 := RK.c3 k hk
      have c4 := RK.c4 k hk
      have c5 := RK.c5 k hk
      clear RK
      go_wp2_with (first | (go_at_call 57; refine (h43 _).mono ?_; rintro e w4 ⟨gt, rfl, ⟨ct1, ct2⟩, B4⟩; (have R4 := R3.next B4)) | (at_builtin; refine wpList_append_own _ rfl _ _ 40 rfl w.heap.size 3 i3 (.int .i64 0) 1 8 Tryd.underlying40 hi3 hz30 hz31 hz32 rfl (by decide) _ _ _ rfl R4.1 ⟨gt, 0, none⟩ 2 2 [.int .i64 (B k), .int .i64 (C k)] rfl rfl ?a1 ?a2 ?a3 ?a4 ?a5 ?_))
      case a1 =>
        intro j u hj
        match j, hj with
        | 0, hj => simp at hj; subst hj; simpa [Addr.add] using ct1
        | 1, hj => simp at hj; subst hj; simpa [Addr.add] using ct2
      case a2 => intro u hu; simp at hu; rcases hu with rfl | rfl <;> rfl
      case a3 => unfold maxLen; simp
      case a4 => simp
      case a5 => have := R4.2; simp at *; omega
      intro v5 w5 hown hgrow _
      have R5 := R4.more (M := [B k, C k]) rfl hown hgrow.size
      have BB := B3.trans (B4.mono B3.size)
      have B5 : Below w.heap.size w w5 := BB.grown hgrow BB.size (fun q hq => (R4.lt q hq).1)
      clear hown hgrow
      go_wp2
      go_ret
      exact ⟨_, rfl, R5, B5⟩
    · have HL : Hid (nxL (O k) (A k) (B k) (C k) k n = [((k : Int) + 1)]) := by show _ = _; rw [HL0.out]; unfold tgL; rw [if_neg h8, if_neg h9]; rfl
      rw [HL.out]
      have h43 := fun v => tg_none (O k) (D k) (A k) (B k) (C k) (X k) v h8 h9
      clear HL HL0
      go_enter Tryd.func33, Tryd.ntmps33
      go_wp2_with (at_builtin; refine wpList_append_own _ rfl _ _ 40 rfl w.heap.size 3 i3 (.int .i64 0) 1 8 Tryd.underlying40 hi3 hz30 hz31 hz32 rfl (by decide) _ _ _ rfl (World.ownsRow_nil _ w.heap.size 3 1) ⟨w.heap.size, 0, none⟩ 1 1 [.int .i64 ((k : Int) + 1)] rfl rfl ?b1 ?b2 ?b3 ?b4 ?b5 ?_)
      case b1 =>
        intro j u hj
        match j, hj with
        | 0, hj => simp at hj; subst hj; simp [Addr.add]
      case b2 => intro u hu; simp at hu; subst hu; rfl
      case b3 => unfold maxLen; simp
      case b4 => simp
      case b5 => simp
      intro v3 w3 hown hgrow _
      have R3 : Ri w.heap.size w3 v3 [((k : Int) + 1)] := (R0 (w.alloc (.cells #[.int .i64 ((k : Int) + 1)] 3)) (by simp)).more (M := [((k : Int) + 1)]) rfl hown hgrow.size
      have B3 : Below w.heap.size w w3 := (B1 _).grown hgrow (by simp) (fun q hq => by cases hq)
      clear hown hgrow c0 c1 c2 c3 c4 c5
      have RK := HR.out.next B3
      have c0 := RK.c0 k hk
      have c1 := RK.c1 k hk
      have c2 := RK.c2 k hk
      have c3 := RK.c3 k hk
      have c4 := RK.c4 k hk
      have c5 := RK.c5 k hk
      clear RK
      go_wp2_with (first | (go_at_call 57; refine (h43 _).mono ?_; rintro e w4 ⟨rfl, B4⟩; (have R4 := R3.next B4)) | (at_builtin; refine wpList_append_own_none rfl _ _ 40 rfl w.heap.size 3 i3 1 Tryd.underlying40 hi3 _ _ _ rfl R4.1 rfl ?_))
      go_ret
      exact ⟨_, rfl, R4, B3.trans (B4.mono B3.size)⟩
/-- The numbers of those that are true. -/
def lsF (S : Nat → Bool) : Nat → List Int
  | 0 => []
  | n + 1 => lsF S n ++ (if S n then [(n : Int)] else [])
theorem ls_len (S : Nat → Bool) : ∀ n, (lsF S n).length ≤ n
  | 0 => Nat.le_refl _
  | n + 1 => by have := ls_len S n; rw [lsF, List.length_append]; split <;> simp <;> omega
set_option maxRecDepth 100000 in
set_option maxHeartbeats 2000000 in
theorem list36 (n p cap : Nat) (S : Nat → Bool) (w : World) (R : Own w p n (fun i => .bool (S i))) (n1 : n ≤ 1000) : Calls Tryd.prog 21 #[.slice (some ⟨p, 0, none⟩) n cap] w fun e w' => ∃ u, e = .returned u ∧ Ri w.heap.size w' u (lsF S n) ∧ Below w.heap.size w w' := by
  obtain ⟨i3, hi3, hz30, hz31, hz32⟩ := info_parts info3
  have HR : Hid (Own w p n (fun i => .bool (S i))) := R
  clear R
  go_enter Tryd.func21, Tryd.ntmps21
  go_wp2
  go_loopw [3, 8] (fun vv i wr => ∃ (k : Nat) (u : Value), k ≤ n ∧ i = .int .i64 k ∧ u = vv ∧ Hid (Ri w.heap.size wr u (lsF S k)) ∧ Hid (Below w.heap.size w wr)) (fun _ i _ => n - (intOf i).toNat)
  case atStart => exact ⟨0, _, by omega, rfl, rfl, ⟨World.ownsRow_nil _ _ _ _, Nat.le_refl _⟩, Below.refl _ _⟩
  case round =>
    obtain ⟨k, u, hk, rfl, rfl, HU, HB⟩ := hrel
    by_cases hkn : k < n
    · have i1 : (k : Int) < (n : Int) := by omega
      have i0 : (0 : Int) ≤ (k : Int) := by omega
      have ck := (HR.out.next HB.out).cell k hkn
      have HC : Hid (lsF S (k + 1) = lsF S k ++ (if S k then [(k : Int)] else [])) := rfl
      have HLn : Hid ((lsF S k).length ≤ 1000) := by have := ls_len S k; show _ ≤ _; omega
      generalize lsF S k = L at HU HC HLn
      cases hs : S k
      · rw [hs] at ck
        have HC2 : Hid (lsF S (k + 1) = L) := by have := HC.out; rw [hs] at this; show _ = _; rw [this]; simp
        clear HC hs
        go_wp2
        go_roundw
        case rel => exact ⟨k + 1, _, by omega, by go_num, rfl, by rw [HC2.out]; exact HU, HB⟩
        case measure => simp [intOf]; omega
      · rw [hs] at ck
        have HC2 : Hid (lsF S (k + 1) = L ++ [(k : Int)]) := by have := HC.out; rw [hs] at this; exact this
        have UA : Hid (Ri w.heap.size (wr.alloc (.cells #[.int .i64 (k : Int)] 3)) u L) := HU.out.alloc _
        clear HC hs
        go_wp2_with (at_builtin; refine wpList_append_own _ rfl _ _ 40 rfl w.heap.size 3 i3 (.int .i64 0) 1 8 Tryd.underlying40 hi3 hz30 hz31 hz32 rfl (by decide) _ _ _ rfl UA.out.1 ⟨wr.heap.size, 0, none⟩ 1 1 [.int .i64 (k : Int)] rfl rfl ?a1 ?a2 ?a3 ?a4 ?a5 ?_)
        case a1 =>
          intro j u hj
          match j, hj with
          | 0, hj => simp at hj; subst hj; simp [Addr.add]
        case a2 => intro u hu; simp at hu; subst hu; rfl
        case a3 => have := HLn.out; unfold maxLen; simp; omega
        case a4 => have := HLn.out; simp; omega
        case a5 => have := HU.out.2; simp; omega
        intro v3 w3 hown hgrow _
        have R3 : Hid (Ri w.heap.size w3 v3 (lsF S (k + 1))) := by rw [HC2.out]; exact UA.out.more (M := [(k : Int)]) rfl hown hgrow.size
        have B3 : Hid (Below w.heap.size w w3) := (HB.out.alloc HB.out.size _).grown hgrow (by have := HB.out.size; simp; omega) (fun q hq => (HU.out.lt q hq).1)
        clear hown hgrow
        go_wp2
        go_roundw
        case rel => exact ⟨k + 1, _, by omega, by go_num, rfl, R3, B3⟩
        case measure => simp [intOf]; omega
    · obtain rfl : k = n := by omega
      have i1 : ¬ (k : Int) < (k : Int) := by omega
      go_wp2
      go_ret
      exact ⟨_, rfl, HU.out, HB.out⟩
end Go.Proofs.YtmeokhppaekhpaaDoor
