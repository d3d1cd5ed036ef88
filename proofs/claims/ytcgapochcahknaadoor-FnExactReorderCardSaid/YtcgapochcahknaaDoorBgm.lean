/- The model's l12Begins: where blocks begin. -/
import Derived.Test.YtcgapochcahknaaDoorRcm
namespace Go.Proofs.YtcgapochcahknaaDoor
open Go.ChangeShapes Go.WideShapes Go.ChangeAt Go.RowKit
set_option linter.unusedVariables false
/-- Whether a number stands in a list. -/
def inL (x : Nat) : List Int → Bool
  | [] => false
  | t :: r => decide (t = (x : Int)) || inL x r
theorem inL_snoc (x : Nat) (t : Int) : ∀ l, inL x (l ++ [t]) = (inL x l || decide (t = (x : Int)))
  | [] => by simp [inL]
  | y :: r => by rw [List.cons_append, inL, inL, inL_snoc x t r, Bool.or_assoc]
/-- What ends a block. -/
def cutO (o : Int) : Bool := o == 8 || o == 9 || o == 11 || o == 10
/-- Where a block begins, by the first i instructions. -/
def bgF (O A B C : Nat → Int) : Nat → Nat → Bool
  | 0, x => decide (x = 0)
  | i + 1, x => (bgF O A B C i x || inL x (tgL (O i) (A i) (B i) (C i))) || (cutO (O i) && decide (x = i + 1))
theorem tg_len (o a b c : Int) : (tgL o a b c).length ≤ 2 := by
  unfold tgL
  repeat' split
  all_goals simp
/-- A row of numbers that a call has made above B. -/
def TgR (B : Nat) (w : World) (u : Value) (M : List Int) : Prop := ∃ ad cp, u = .slice ad M.length cp ∧ ∀ i, i < M.length → ∃ g, ad = some ⟨g, 0, none⟩ ∧ B ≤ g ∧ w.cell? ⟨g, i, none⟩ = some (.int .i64 (M.getD i 0))
set_option maxRecDepth 100000 in
set_option maxHeartbeats 2000000 in
theorem tgs43 (o d a b c x : Int) (w : World) : Calls Tryd.prog 91 #[.agg #[.int .i64 o, .int .i64 d, .int .i64 a, .int .i64 b, .int .i64 c, .int .u32 x]] w fun e w' => ∃ u, e = .returned u ∧ TgR w.heap.size w' u (tgL o a b c) ∧ Below w.heap.size w w' := by
  by_cases h8 : o = 8
  · subst h8
    obtain ⟨L, hL⟩ : ∃ L, tgL 8 a b c = L := ⟨_, rfl⟩
    rw [hL]
    have HL : Hid ([a] = L) := hL
    clear hL
    go_enter Tryd.func91, Tryd.ntmps91
    go_wp2
    go_ret
    obtain rfl : [a] = L := HL.out
    exact ⟨_, rfl, ⟨_, 1, rfl, fun i hi => ⟨_, rfl, by simp, by obtain rfl : i = 0 := (by simp at hi; exact hi); simp⟩⟩, ((Below.refl _ _).alloc (Nat.le_refl _) _).alloc (by simp) _⟩
  by_cases h9 : o = 9
  · subst h9
    obtain ⟨L, hL⟩ : ∃ L, tgL 9 a b c = L := ⟨_, rfl⟩
    rw [hL]
    have HL : Hid ([b, c] = L) := hL
    clear hL h8
    go_enter Tryd.func91, Tryd.ntmps91
    go_wp2
    go_ret
    obtain rfl : [b, c] = L := HL.out
    exact ⟨_, rfl, ⟨_, 2, rfl, fun i hi => ⟨_, rfl, by simp, by rcases (by simp at hi; omega : i = 0 ∨ i = 1) with rfl | rfl <;> simp⟩⟩, ((Below.refl _ _).alloc (Nat.le_refl _) _).alloc (by simp) _⟩
  have f8 : (o == 8) = false := by simp; omega
  have f9 : (o == 9) = false := by simp; omega
  rw [show tgL o a b c = [] by unfold tgL; rw [if_neg h8, if_neg h9]]
  clear h8 h9
  go_enter Tryd.func91, Tryd.ntmps91
  go_wp2
  go_ret
  exact ⟨_, rfl, ⟨none, 0, rfl, fun i hi => absurd hi (by simp)⟩, (Below.refl _ _).alloc (Nat.le_refl _) _⟩
theorem only_cell {o : Nat} {w w' : World} (h : Only o w w') {g i : Nat} {v : Value} (hc : w.cell? ⟨g, i, none⟩ = some v) (hg : g ≠ o) : w'.cell? ⟨g, i, none⟩ = some v :=
  (World.cell?_of_block (a := ⟨g, i, none⟩) (h.block g (World.block_lt_of_cell? _ ⟨g, i, none⟩ hc) hg)).trans hc
set_option maxRecDepth 100000 in
set_option maxHeartbeats 8000000 in
theorem begins54 (n a cap : Nat) (O D A B C X : Nat → Int) (w : World) (R : RowI w a n O D A B C X) (n1 : n ≤ 600) (hb : ∀ k, k < n → ∀ t, t ∈ tgL (O k) (A k) (B k) (C k) → 0 ≤ t ∧ t < n) : Calls Tryd.prog 59 #[.slice (some ⟨a, 0, none⟩) n cap] w fun e w' => e = .returned (.slice (some ⟨w.heap.size, 0, none⟩) (n + 1) (n + 1)) ∧ Own w' w.heap.size (n + 1) (fun i => .bool (bgF O A B C n i)) ∧ Below w.heap.size w w' := by
  obtain ⟨i4, hi4, hz40, hz41, hz42⟩ := info_parts info4
  have HR : Hid (RowI w a n O D A B C X) := R
  have HB : Hid (∀ k, k < n → ∀ t, t ∈ tgL (O k) (A k) (B k) (C k) → 0 ≤ t ∧ t < n) := hb
  have H43 : Hid (∀ k v, Calls Tryd.prog 91 #[.agg #[.int .i64 (O k), .int .i64 (D k), .int .i64 (A k), .int .i64 (B k), .int .i64 (C k), .int .u32 (X k)]] v fun e w' => ∃ u, e = .returned u ∧ TgR v.heap.size w' u (tgL (O k) (A k) (B k) (C k)) ∧ Below v.heap.size v w') := fun k v => tgs43 _ _ _ _ _ _ v
  clear R hb
  go_enter Tryd.func59, Tryd.ntmps59
  go_wp2_with (at_make; refine wpList_make_full _ rfl _ _ 78 rfl w.heap.size 4 i4 (.bool false) 1 Tryd.underlying78 hi4 hz40 hz41 .i64 .i64 _ _ (n + 1) rfl rfl ?b0 ?b1 ?b2 ?b3 ?b4 ?_)
  case b0 => go_num
  case b1 => go_num
  case b2 => rw [hz42]; omega
  case b3 => unfold maxLen; omega
  case b4 => exact Nat.le_refl _
  intro w1 hown hgrow
  have S0 : Own w1 w.heap.size (n + 1) (fun i => .bool false) := own_made (by rw [Nat.mul_one]; exact hown)
  have B1 : Below w.heap.size w w1 := ⟨hgrow.os, hgrow.tape, hgrow.output, hgrow.size, fun k hk => hgrow.block k hk (by simp)⟩
  have HS0 : Hid (Own (w1.setCell ⟨w.heap.size, 0, none⟩ (.bool true)) w.heap.size (n + 1) (fun i => .bool (bgF O A B C 0 i))) := S0.set 0 _ (by omega) (fun i hi => by unfold bgF; by_cases e : i = 0; (rw [if_pos e, decide_eq_true e]); rw [if_neg e, decide_eq_false e])
  have HB1 : Hid (Below w.heap.size w (w1.setCell ⟨w.heap.size, 0, none⟩ (.bool true))) := B1.setCell (p := ⟨w.heap.size, 0, none⟩) (Nat.le_refl _) _
  have s0 := S0.cell 0 (by omega)
  have z0 := S0.free 0
  have nn : (0 : Int) < ((n + 1 : Nat) : Int) := by omega
  clear hown hgrow S0 B1
  go_wp2
  clear s0 z0
  go_loopw [16] (fun i wr => ∃ k : Nat, k ≤ n ∧ i = .int .i64 k ∧ Hid (Own wr w.heap.size (n + 1) (fun i => .bool (bgF O A B C k i))) ∧ Below w.heap.size w wr) (fun i _ => n - (intOf i).toNat)
  case atStart => exact ⟨0, by omega, rfl, HS0, HB1.out⟩
  case round =>
    obtain ⟨k, hk, rfl, HS, BQ⟩ := hrel
    clear HS0 HB1
    have RK := HR.out.next BQ
    by_cases hkn : k < n
    · have i1 : (k : Int) < (n : Int) := by omega
      have c0 := RK.c0 k hkn
      have c1 := RK.c1 k hkn
      have c2 := RK.c2 k hkn
      have c3 := RK.c3 k hkn
      have c4 := RK.c4 k hkn
      have c5 := RK.c5 k hkn
      have h43 := H43.out k
      have hT := HB.out k hkn
      have HST : Hid (∀ x, bgF O A B C (k + 1) x = ((bgF O A B C k x || inL x (tgL (O k) (A k) (B k) (C k))) || (cutO (O k) && decide (x = k + 1)))) := fun x => rfl
      have BA : Hid (Below w.heap.size w (wr.alloc (.cells #[.int .i64 (O k), .int .i64 (D k), .int .i64 (A k), .int .i64 (B k), .int .i64 (C k), .int .u32 (X k)] 35))) := BQ.alloc BQ.size _
      have d0 : (wr.alloc (.cells #[.int .i64 (O k), .int .i64 (D k), .int .i64 (A k), .int .i64 (B k), .int .i64 (C k), .int .u32 (X k)] 35)).cell? ⟨wr.heap.size, 0, none⟩ = some (.int .i64 (O k)) := by simp
      have HL2 := tg_len (O k) (A k) (B k) (C k)
      have LW : Hid (w.heap.size < wr.heap.size) := HS.out.hi
      generalize tgL (O k) (A k) (B k) (C k) = M at h43 hT HST HL2
      have HTB : Hid (∀ t, t ∈ M → 0 ≤ t ∧ t < n) := hT
      obtain ⟨m, hm⟩ : ∃ m, M.length = m := ⟨_, rfl⟩
      have HM : Hid (M.length = m) := hm
      have hm2 : m ≤ 2 := by omega
      clear RK hT HL2
      go_wp2_with (go_at_call 91; refine (h43 _).mono ?_; rintro e w3 ⟨u, rfl, LU, B3⟩; (have e0 := cell_nx d0 B3); (obtain ⟨ad, cp, rfl, CM⟩ := LU))
      have BB : Hid (Below w.heap.size w w3) := BA.out.trans (B3.mono BA.out.size)
      have S3 : Hid (Own w3 w.heap.size (n + 1) (fun i => .bool (bgF O A B C k i || inL i (M.take 0)))) := ((HS.out.next ((Below.refl _ _).alloc (Nat.le_refl _) _)).next B3).mono (Nat.le_refl _) (fun i hi => by simp [inL])
      have HCM : Hid (∀ i, i < m → ∃ g, ad = some ⟨g, 0, none⟩ ∧ g ≠ w.heap.size ∧ w3.cell? ⟨g, i, none⟩ = some (.int .i64 (M.getD i 0))) := fun i hi => by
        obtain ⟨g, h1, h2, h3⟩ := CM i (by rw [hm]; exact hi)
        exact ⟨g, h1, by have := LW.out; simp at h2; omega, h3⟩
      try rw [hm]
      have HE0 : Hid (w3.cell? ⟨wr.heap.size, 0, none⟩ = some (.int .i64 (O k))) := e0
      clear CM B3 h43 c0 c1 c2 c3 c4 c5 d0 BA HS BQ hm e0
      obtain ⟨q, hq⟩ : ∃ q, wr.heap.size = q := ⟨_, rfl⟩
      rw [hq] at HE0 LW ⊢
      clear hq
      go_wp2
      go_loopw [24] (fun i wx => ∃ j : Nat, j ≤ m ∧ i = .int .i64 j ∧ Hid (Own wx w.heap.size (n + 1) (fun i => .bool (bgF O A B C k i || inL i (M.take j)))) ∧ Hid (Only w.heap.size w3 wx)) (fun i _ => m - (intOf i).toNat)
      case atStart => exact ⟨0, by omega, rfl, S3, Only.refl _ _⟩
      case round =>
        obtain ⟨j, hj, rfl, SJ, KJ⟩ := hrel
        clear S3
        by_cases hjm : j < m
        · have i2 : (j : Int) < (m : Int) := by omega
          obtain ⟨g, had, hg, ct3⟩ := HCM.out j hjm
          subst had
          have ct := only_cell KJ.out ct3 hg
          have tb := HTB.out (M.getD j 0) (by simp [List.getD, show j < M.length by rw [HM.out]; exact hjm])
          have HTk : Hid (∀ i : Nat, inL i (M.take (j + 1)) = (inL i (M.take j) || decide (M.getD j 0 = (i : Int)))) := fun i => by
            rw [List.take_add_one, show M[j]?.toList = [M.getD j 0] by simp [List.getD, show j < M.length by rw [HM.out]; exact hjm], inL_snoc]
          generalize M.getD j 0 = t at ct tb HTk
          obtain ⟨tn, rfl⟩ : ∃ tn : Nat, t = (tn : Int) := ⟨t.toNat, by omega⟩
          have hn : tn < n + 1 := by omega
          have q0 : (tn : Int) < ((n + 1 : Nat) : Int) := by omega
          have cs := SJ.out.cell tn hn
          have fz := SJ.out.free tn
          have S4 : Hid (Own (wr.setCell ⟨w.heap.size, tn, none⟩ (.bool true)) w.heap.size (n + 1) (fun i => .bool (bgF O A B C k i || inL i (M.take (j + 1))))) := SJ.out.set tn _ hn (fun i hi => by
            rw [HTk.out i]
            by_cases e : i = tn
            · subst e; simp
            · rw [if_neg e, decide_eq_false (by omega), Bool.or_false])
          have K4 : Hid (Only w.heap.size w3 (wr.setCell ⟨w.heap.size, tn, none⟩ (.bool true))) := KJ.out.setCell tn _
          clear SJ KJ ct3
          go_wp2
          go_roundw
          case rel => exact ⟨j + 1, hjm, by go_num, S4, K4⟩
          case measure => simp [intOf]; omega
        · obtain rfl : j = m := by omega
          have i2 : ¬ (j : Int) < (j : Int) := by omega
          have e0 := only_cell KJ.out HE0.out (by have := LW.out; omega)
          have S5 : Hid (Own wr w.heap.size (n + 1) (fun i => .bool (bgF O A B C k i || inL i M))) := by have := SJ.out; rw [List.take_of_length_le (by rw [HM.out]; exact Nat.le_refl _)] at this; exact this
          have B5 : Hid (Below w.heap.size w wr) := BB.out.trans (KJ.out.below (Nat.le_refl _) BB.out.size)
          clear SJ KJ
          cases hc : cutO (O k)
          · have HN : Hid (Own wr w.heap.size (n + 1) (fun i => .bool (bgF O A B C (k + 1) i))) := S5.out.mono (Nat.le_refl _) (fun i hi => by show Value.bool _ = Value.bool _; rw [HST.out i, hc]; simp)
            unfold cutO at hc
            simp only [Bool.or_eq_false_iff] at hc
            obtain ⟨⟨⟨f8, f9⟩, f11⟩, f10⟩ := hc
            clear S5
            go_wp2
            go_roundw
            case rel => exact ⟨k + 1, hkn, by go_num, HN, B5.out⟩
            case measure => simp [intOf]; omega
          · have HN : Hid (Own (wr.setCell ⟨w.heap.size, k + 1, none⟩ (.bool true)) w.heap.size (n + 1) (fun i => .bool (bgF O A B C (k + 1) i))) := S5.out.set (k + 1) _ (by omega) (fun i hi => by
              rw [HST.out i, hc]
              by_cases e : i = k + 1
              · subst e; simp
              · rw [if_neg e, decide_eq_false e]; simp)
            have B6 : Hid (Below w.heap.size w (wr.setCell ⟨w.heap.size, k + 1, none⟩ (.bool true))) := B5.out.setCell (p := ⟨w.heap.size, k + 1, none⟩) (Nat.le_refl _) _
            have cs := S5.out.cell (k + 1) (by omega)
            have fz := S5.out.free (k + 1)
            have q0 : (k : Int) + 1 < ((n + 1 : Nat) : Int) := by omega
            have tk : ((k : Int) + 1).toNat = k + 1 := by omega
            clear S5 B5
            by_cases h8 : O k = 8
            · rw [h8] at e0
              clear hc
              try clear h8
              try clear h9
              try clear h11
              go_wp2
              go_roundw
              case rel => exact ⟨k + 1, hkn, by go_num, HN, B6.out⟩
              case measure => simp [intOf]; omega
            by_cases h9 : O k = 9
            · rw [h9] at e0
              clear hc
              try clear h8
              try clear h9
              try clear h11
              go_wp2
              go_roundw
              case rel => exact ⟨k + 1, hkn, by go_num, HN, B6.out⟩
              case measure => simp [intOf]; omega
            by_cases h11 : O k = 11
            · rw [h11] at e0
              clear hc
              try clear h8
              try clear h9
              try clear h11
              go_wp2
              go_roundw
              case rel => exact ⟨k + 1, hkn, by go_num, HN, B6.out⟩
              case measure => simp [intOf]; omega
            have h10 : O k = 10 := by unfold cutO at hc; simp [h8, h9, h11] at hc; exact hc
            rw [h10] at e0
            clear hc
            clear h8 h9 h11 h10
            go_wp2
            go_roundw
            case rel => exact ⟨k + 1, hkn, by go_num, HN, B6.out⟩
            case measure => simp [intOf]; omega
    · obtain rfl : k = n := by omega
      have i1 : ¬ (k : Int) < (k : Int) := by omega
      go_wp2
      go_ret
      exact ⟨rfl, HS.out, BQ⟩
end Go.Proofs.YtcgapochcahknaaDoor
