/- Contracts of GoodCode, the program's and the model's: both answer goodC of the row; conditions: the row stands in memory, words within their bounds, the table of calls holds its names and numbers. -/
import Derived.Test.YtcgapochcahknaaDoorGi
import Derived.Test.YtcgapochcahknaaDoorLgA
import Derived.Test.YtcgapochcahknaaDoorLgB
import Derived.Test.YtcgapochcahknaaDoorLgC
import Derived.Test.YtcgapochcahknaaDoorLgD
import Derived.Test.YtcgapochcahknaaDoorLgE
import Derived.Test.YtcgapochcahknaaDoorLgF
import Derived.Test.YtcgapochcahknaaDoorRwi
namespace Go.Proofs.YtcgapochcahknaaDoor
open Go.ChangeShapes Go.WideShapes Go.ChangeAt Go.RowKit
set_option linter.unusedVariables false
set_option maxRecDepth 100000 in
set_option maxHeartbeats 2000000 in
theorem lg31 (o d a b c x n : Int) (w : World) (x0 : 0 ≤ x) (x1 : x < 4294967296) (n0 : 1 ≤ n) (n1 : n ≤ 600) : Calls Tryd.prog 38 #[.agg #[.int .i64 o, .int .i64 d, .int .i64 a, .int .i64 b, .int .i64 c, .int .u32 x], .int .i64 n] w fun e w' => e = .returned (.bool (goodI o d a b c x n)) ∧ Below w.heap.size w w' := by
  rcases op_cases o with h | h
  · rcases op_in o h with rfl | rfl | rfl | rfl | rfl | rfl | rfl | rfl | rfl | rfl | rfl | rfl | rfl
    · exact lg31_1 d a b c x n w x0 x1 n0 n1
    · exact lg31_2 d a b c x n w x0 x1 n0 n1
    · exact lg31_3 d a b c x n w x0 x1 n0 n1
    · exact lg31_4 d a b c x n w x0 x1 n0 n1
    · exact lg31_5 d a b c x n w x0 x1 n0 n1
    · exact lg31_6 d a b c x n w x0 x1 n0 n1
    · exact lg31_7 d a b c x n w x0 x1 n0 n1
    · exact lg31_8 d a b c x n w x0 x1 n0 n1
    · exact lg31_9 d a b c x n w x0 x1 n0 n1
    · exact lg31_10 d a b c x n w x0 x1 n0 n1
    · exact lg31_11 d a b c x n w x0 x1 n0 n1
    · exact lg31_12 d a b c x n w x0 x1 n0 n1
    · exact lg31_13 d a b c x n w x0 x1 n0 n1
  · exact lg31_off o d a b c x n w h x0 x1 n0 n1
/-- Whether the first k of a list are as said. -/
def allB (f : Nat → Bool) : Nat → Bool
  | 0 => true
  | k + 1 => allB f k && f k
theorem allB_stop (f : Nat → Bool) (k : Nat) (h : f k = false) : ∀ n, k < n → allB f n = false
  | 0, hn => by omega
  | n + 1, hn => by
    rw [allB]
    by_cases e : k = n
    · subst e; rw [h]; simp
    · rw [allB_stop f k h n (by omega)]; rfl
theorem allB_at (f : Nat → Bool) : ∀ (n k : Nat), allB f n = true → k < n → f k = true
  | 0, k, h, hk => by omega
  | n + 1, k, h, hk => by
    rw [allB, Bool.and_eq_true] at h
    by_cases e : k = n
    · subst e; exact h.2
    · exact allB_at f n k h.1 (by omega)
def gdI (O D A B C X : Nat → Int) (n : Nat) (i : Nat) : Bool := goodI (O i) (D i) (A i) (B i) (C i) (X i) (n : Int)
def lastB (o : Int) : Bool := o == 11 || o == 8
def goodC (O D A B C X : Nat → Int) (n : Nat) : Bool := (decide (1 ≤ n) && decide (n ≤ 600)) && (allB (gdI O D A B C X n) n && lastB (O (n - 1)))
/-- The words of a row are words. -/
def Wds (X : Nat → Int) (n : Nat) : Prop := ∀ i, i < n → 0 ≤ X i ∧ X i < 4294967296
set_option maxRecDepth 100000 in
set_option maxHeartbeats 4000000 in
theorem good9 (n a cap : Nat) (O D A B C X : Nat → Int) (w : World) (R : RowI w a n O D A B C X) (hX : Wds X n) (hn : n ≤ 1048576) : Calls Tryd.prog 33 #[.slice (some ⟨a, 0, none⟩) n cap] w fun e w' => e = .returned (.bool (goodC O D A B C X n)) ∧ Below w.heap.size w w' := by
  have HP : Hid (goodC O D A B C X n = ((decide (1 ≤ n) && decide (n ≤ 600)) && (allB (gdI O D A B C X n) n && lastB (O (n - 1))))) := rfl
  by_cases e0 : n = 0
  · subst e0
    rw [HP.out, decide_eq_false (by omega), Bool.false_and, Bool.false_and]
    go_enter Tryd.func33, Tryd.ntmps33
    go_wp2
    go_ret
    exact ⟨rfl, Below.refl _ _⟩
  have e0' : ¬ (n : Int) < 1 := by omega
  by_cases e1 : 600 < n
  · have e1' : (600 : Int) < (n : Int) := by omega
    rw [HP.out, decide_eq_false (show ¬ n ≤ 600 by omega), Bool.and_false, Bool.false_and]
    go_enter Tryd.func33, Tryd.ntmps33
    go_wp2
    go_ret
    exact ⟨rfl, Below.refl _ _⟩
  have e1' : (n : Int) ≤ 600 := by omega
  rw [HP.out, decide_eq_true (show 1 ≤ n by omega), decide_eq_true (show n ≤ 600 by omega), Bool.true_and, Bool.true_and]
  clear HP
  have HG : Hid (∀ i, i < n → ∀ v, Calls Tryd.prog 38 #[.agg #[.int .i64 (O i), .int .i64 (D i), .int .i64 (A i), .int .i64 (B i), .int .i64 (C i), .int .u32 (X i)], .int .i64 (n : Int)] v fun e w' => e = .returned (.bool (gdI O D A B C X n i)) ∧ Below v.heap.size v w') := fun i hi v => lg31 _ _ _ _ _ _ _ v (hX i hi).1 (hX i hi).2 (by omega) e1'
  have HS : Hid (∀ k, gdI O D A B C X n k = false → k < n → allB (gdI O D A B C X n) n = false) := fun k h hk => allB_stop _ k h n hk
  generalize gdI O D A B C X n = f at HG HS ⊢
  have HR : Hid (RowI w a n O D A B C X) := R
  have HZ : Hid (∀ k, allB f (k + 1) = (allB f k && f k)) := fun k => rfl
  clear hX R
  go_enter Tryd.func33, Tryd.ntmps33
  go_wp2
  go_loopw [16] (fun i wx => ∃ k : Nat, k ≤ n ∧ i = .int .i64 k ∧ Hid (allB f k = true) ∧ Below w.heap.size w wx) (fun i _ => n - (intOf i).toNat)
  case atStart => exact ⟨0, by omega, rfl, rfl, Below.refl _ _⟩
  case round =>
    obtain ⟨k, hk, rfl, HO, BQ⟩ := hrel
    have RK := HR.out.next BQ
    by_cases hkn : k < n
    · have i1 : (k : Int) < (n : Int) := by omega
      have i0 : (0 : Int) ≤ (k : Int) := by omega
      have c0 := RK.c0 k hkn
      have c1 := RK.c1 k hkn
      have c2 := RK.c2 k hkn
      have c3 := RK.c3 k hkn
      have c4 := RK.c4 k hkn
      have c5 := RK.c5 k hkn
      have hg := HG.out k hkn
      have BA : Hid (Below w.heap.size w (wr.alloc (.cells #[.int .i64 (O k), .int .i64 (D k), .int .i64 (A k), .int .i64 (B k), .int .i64 (C k), .int .u32 (X k)] 35))) := BQ.alloc BQ.size _
      cases hf : f k
      · rw [hf] at hg
        have HQ : Hid (allB f n = false) := HS.out k hf hkn
        clear RK hf
        go_wp2_with (go_at_call 38; refine (hg _).mono ?_; rintro e w1 ⟨rfl, B1⟩)
        go_ret
        exact ⟨by rw [HQ.out]; rfl, BA.out.trans (B1.mono (by have := BQ.size; simp; omega))⟩
      · rw [hf] at hg
        have HQ : Hid (allB f (k + 1) = true) := by show _ = _; rw [HZ.out, HO.out, hf]; rfl
        clear RK hf
        go_wp2_with (go_at_call 38; refine (hg _).mono ?_; rintro e w1 ⟨rfl, B1⟩)
        go_roundw
        case rel => exact ⟨k + 1, by omega, by go_num, HQ, BA.out.trans (B1.mono (by have := BQ.size; simp; omega))⟩
        case measure => simp [intOf]; omega
    · have hkk : k = n := by omega
      subst hkk
      have c0 := RK.c0 (k - 1) (by omega)
      have j0 : (0 : Int) ≤ (k : Int) - 1 := by omega
      have j1 : (k : Int) - 1 < (k : Int) := by omega
      have j2 : ((k : Int) - 1).toNat = k - 1 := by omega
      obtain ⟨L, hL⟩ : ∃ L, O (k - 1) = L := ⟨_, rfl⟩
      have HL : Hid (lastB (O (k - 1)) = (L == 11 || L == 8)) := by show _ = _; rw [← hL]; rfl
      rw [hL] at c0
      clear RK hL
      cases h1 : (L == 11)
      · rw [h1] at HL
        go_wp2
        go_ret
        exact ⟨by rw [HO.out, HL.out]; rfl, BQ⟩
      · rw [h1] at HL
        go_wp2
        go_ret
        exact ⟨by rw [HO.out, HL.out]; rfl, BQ⟩
set_option maxRecDepth 100000 in
set_option maxHeartbeats 4000000 in
theorem not32 (o d a b c x : Int) (g n cap : Nat) (p : Option Addr) (w : World) (G : Forms w) (x0 : 0 ≤ x) (x1 : x < 4294967296) (n0 : 1 ≤ n) (n1 : n ≤ 600) (hc : w.cell? ⟨g, 0, none⟩ = some (.slice p n cap)) : Calls Tryd.prog 88 #[.agg #[.int .i64 o, .int .i64 d, .int .i64 a, .int .i64 b, .int .i64 c, .int .u32 x], .pointer (some ⟨g, 0, none⟩)] w fun e w' => e = .returned (.bool (!goodI o d a b c x n)) ∧ Below w.heap.size w w' := by
  have gl := World.block_lt_of_cell? _ ⟨g, 0, none⟩ hc
  have BW : Below w.heap.size w (w.alloc (.cells #[.int .i64 o, .int .i64 d, .int .i64 a, .int .i64 b, .int .i64 c, .int .u32 x] 35)) := (Below.refl _ _).alloc (Nat.le_refl _) _
  have hg := fun v g => good33 o d a b c x n v g x0 x1 (by omega) (by omega)
  have GW := G.below BW
  have cW := (BW.cell (p := ⟨g, 0, none⟩) gl).trans hc
  clear hc
  go_enter Tryd.func88, Tryd.ntmps88
  go_wp2_with (go_at_call 40; refine (hg _ GW).mono ?_; rintro e w1 ⟨rfl, B1⟩)
  go_ret
  exact ⟨rfl, BW.trans (B1.mono BW.size)⟩
set_option maxRecDepth 100000 in
set_option maxHeartbeats 4000000 in
theorem idx62 (n a cap g : Nat) (O D A B C X : Nat → Int) (w : World) (G : Forms w) (R : RowI w a n O D A B C X) (hX : Wds X n) (n0 : 1 ≤ n) (n1 : n ≤ 600) (p : Option Addr) (cp : Nat) (hc : w.cell? ⟨g, 0, none⟩ = some (.slice p n cp)) : Calls Tryd.prog 108 #[.slice (some ⟨a, 0, none⟩) n cap, .func (.func 88) #[] #[.pointer (some ⟨g, 0, none⟩)]] w fun e w' => (∃ z : Int, e = .returned (.int .i64 z) ∧ Hid (decide (0 ≤ z) = !allB (gdI O D A B C X n) n)) ∧ Below w.heap.size w w' := by
  have gl := World.block_lt_of_cell? _ ⟨g, 0, none⟩ hc
  have HG : Hid (∀ i, i < n → ∀ v, Below w.heap.size w v → Calls Tryd.prog 88 #[.agg #[.int .i64 (O i), .int .i64 (D i), .int .i64 (A i), .int .i64 (B i), .int .i64 (C i), .int .u32 (X i)], .pointer (some ⟨g, 0, none⟩)] v fun e w' => e = .returned (.bool (!gdI O D A B C X n i)) ∧ Below v.heap.size v w') := fun i hi v b => not32 _ _ _ _ _ _ g n cp p v (G.below b) (hX i hi).1 (hX i hi).2 n0 n1 ((b.cell (p := ⟨g, 0, none⟩) gl).trans hc)
  have HS : Hid (∀ k, gdI O D A B C X n k = false → k < n → allB (gdI O D A B C X n) n = false) := fun k h hk => allB_stop _ k h n hk
  generalize gdI O D A B C X n = f at HG HS ⊢
  have HR : Hid (RowI w a n O D A B C X) := R
  have HZ : Hid (∀ k, allB f (k + 1) = (allB f k && f k)) := fun k => rfl
  clear hX R hc gl G
  go_enter Tryd.func108, Tryd.ntmps108
  go_wp2
  go_loopw [8] (fun i wx => ∃ k : Nat, k ≤ n ∧ i = .int .i64 k ∧ Hid (allB f k = true) ∧ Below w.heap.size w wx) (fun i _ => n - (intOf i).toNat)
  case atStart => exact ⟨0, by omega, rfl, rfl, Below.refl _ _⟩
  case round =>
    obtain ⟨k, hk, rfl, HO, B⟩ := hrel
    have RK := HR.out.next B
    by_cases hkn : k < n
    · have i1 : (k : Int) < (n : Int) := by omega
      have i0 : (0 : Int) ≤ (k : Int) := by omega
      have c0 := RK.c0 k hkn
      have c1 := RK.c1 k hkn
      have c2 := RK.c2 k hkn
      have c3 := RK.c3 k hkn
      have c4 := RK.c4 k hkn
      have c5 := RK.c5 k hkn
      have hg := HG.out k hkn _ B
      cases hf : f k
      · rw [hf] at hg
        have HQ : Hid (allB f n = false) := HS.out k hf hkn
        clear RK hf
        go_wp2_with (go_at_call 88; refine hg.mono ?_; rintro e w1 ⟨rfl, B1⟩)
        go_ret
        exact ⟨⟨k, rfl, by show _ = _; rw [HQ.out]; simp⟩, B.trans (B1.mono B.size)⟩
      · rw [hf] at hg
        have HQ : Hid (allB f (k + 1) = true) := by show _ = _; rw [HZ.out, HO.out, hf]; rfl
        clear RK hf
        go_wp2_with (go_at_call 88; refine hg.mono ?_; rintro e w1 ⟨rfl, B1⟩)
        go_roundw
        case rel => exact ⟨k + 1, by omega, by go_num, HQ, B.trans (B1.mono B.size)⟩
        case measure => simp [intOf]; omega
    · have hkk : k = n := by omega
      subst hkk
      clear RK
      go_wp2
      go_ret
      exact ⟨⟨-1, rfl, by show _ = _; rw [HO.out]; rfl⟩, B⟩
set_option maxRecDepth 100000 in
set_option maxHeartbeats 4000000 in
theorem contains34 (n a cap g : Nat) (O D A B C X : Nat → Int) (w : World) (G : Forms w) (R : RowI w a n O D A B C X) (hX : Wds X n) (n0 : 1 ≤ n) (n1 : n ≤ 600) (p : Option Addr) (cp : Nat) (hc : w.cell? ⟨g, 0, none⟩ = some (.slice p n cp)) : Calls Tryd.prog 80 #[.slice (some ⟨a, 0, none⟩) n cap, .func (.func 88) #[] #[.pointer (some ⟨g, 0, none⟩)]] w fun e w' => e = .returned (.bool (!allB (gdI O D A B C X n) n)) ∧ Below w.heap.size w w' := by
  have h := idx62 n a cap g O D A B C X w G R hX n0 n1 p cp hc
  clear hc R hX G
  go_enter Tryd.func80, Tryd.ntmps80
  go_wp2_with (go_at_call 108; refine h.mono ?_; rintro e w' ⟨⟨z, rfl, hz⟩, hw⟩)
  go_ret
  exact ⟨by show Ending.returned (.bool (decide (0 ≤ z))) = _; rw [hz.out], hw⟩
set_option maxRecDepth 100000 in
set_option maxHeartbeats 4000000 in
theorem ends47 (n a cap : Nat) (O D A B C X : Nat → Int) (w : World) (R : RowI w a n O D A B C X) (hn : n ≤ 1048576) : Calls Tryd.prog 89 #[.slice (some ⟨a, 0, none⟩) n cap] w fun e w' => e = .returned (.bool (decide (1 ≤ n) && lastB (O (n - 1)))) ∧ w' = w := by
  by_cases e0 : n = 0
  · subst e0
    rw [decide_eq_false (by omega), Bool.false_and]
    clear R
    go_enter Tryd.func89, Tryd.ntmps89
    go_wp2
    go_ret
    exact ⟨rfl, rfl⟩
  have e0' : ((n : Int) == 0) = false := by simp; omega
  have c0 := R.c0 (n - 1) (by omega)
  have j0 : (0 : Int) ≤ (n : Int) - 1 := by omega
  have j1 : (n : Int) - 1 < (n : Int) := by omega
  have j2 : ((n : Int) - 1).toNat = n - 1 := by omega
  rw [decide_eq_true (show 1 ≤ n by omega), Bool.true_and]
  have HL : Hid (lastB (O (n - 1)) = (O (n - 1) == 11 || O (n - 1) == 8)) := rfl
  clear R
  generalize lastB (O (n - 1)) = LB at HL ⊢
  generalize O (n - 1) = L at c0 HL
  cases h1 : (L == 11)
  · rw [h1] at HL
    go_enter Tryd.func89, Tryd.ntmps89
    go_wp2
    go_ret
    exact ⟨by rw [HL.out]; rfl, rfl⟩
  · rw [h1] at HL
    go_enter Tryd.func89, Tryd.ntmps89
    go_wp2
    go_ret
    exact ⟨by rw [HL.out]; rfl, rfl⟩
set_option maxRecDepth 100000 in
set_option maxHeartbeats 4000000 in
theorem good11 (n a cap : Nat) (O D A B C X : Nat → Int) (w : World) (G : Forms w) (R : RowI w a n O D A B C X) (hX : Wds X n) (hn : n ≤ 1048576) : Calls Tryd.prog 56 #[.slice (some ⟨a, 0, none⟩) n cap] w fun e w' => e = .returned (.bool (goodC O D A B C X n)) ∧ Below w.heap.size w w' := by
  have HP : Hid (goodC O D A B C X n = ((decide (1 ≤ n) && decide (n ≤ 600)) && (allB (gdI O D A B C X n) n && lastB (O (n - 1))))) := rfl
  have BW : Below w.heap.size w (w.alloc (.cells #[.slice (some ⟨a, 0, none⟩) n cap] 24)) := (Below.refl _ _).alloc (Nat.le_refl _) _
  have HB : Hid (Below w.heap.size w (w.alloc (.cells #[.slice (some ⟨a, 0, none⟩) n cap] 24))) := BW
  have hmf : ∀ (fn : Fn) (first cap : Array Value) (w : World), (Instr.makeFunc fn first cap).run Tryd.prog w = .ok (.func fn first cap) w := fun _ _ _ _ => rfl
  have RW := R.next BW
  have h47 := ends47 n a cap O D A B C X _ RW hn
  by_cases e1 : 600 < n
  · have e1' : ¬ (n : Int) ≤ 600 := by omega
    rw [HP.out, decide_eq_false (show ¬ n ≤ 600 by omega), Bool.and_false, Bool.false_and]
    clear BW RW h47 hX R G
    go_enter Tryd.func56, Tryd.ntmps56
    go_wp2
    go_ret
    exact ⟨rfl, HB.out⟩
  have e1' : (n : Int) ≤ 600 := by omega
  rw [HP.out, decide_eq_true (show n ≤ 600 by omega), Bool.and_true]
  clear HP
  cases hq : (decide (1 ≤ n) && lastB (O (n - 1)))
  · rw [hq] at h47
    rw [show (decide (1 ≤ n) && (allB (gdI O D A B C X n) n && lastB (O (n - 1)))) = false by
      rw [Bool.and_comm (allB _ _), ← Bool.and_assoc, hq]; rfl]
    have H47 : Hid (Calls Tryd.prog 89 #[.slice (some ⟨a, 0, none⟩) n cap] (w.alloc (.cells #[.slice (some ⟨a, 0, none⟩) n cap] 24)) fun e w' => e = .returned (.bool false) ∧ w' = w.alloc (.cells #[.slice (some ⟨a, 0, none⟩) n cap] 24)) := h47
    clear BW RW h47 hX R G hq
    go_enter Tryd.func56, Tryd.ntmps56
    go_wp2_with (go_at_call 89; refine H47.out.mono ?_; rintro e w1 ⟨rfl, hw⟩; subst w1)
    go_ret
    exact ⟨rfl, HB.out⟩
  · rw [hq] at h47
    obtain ⟨q1, q2⟩ := Bool.and_eq_true_iff.1 hq
    have n0 : 1 ≤ n := of_decide_eq_true q1
    rw [q1, q2, Bool.true_and, Bool.and_true]
    have cW : (w.alloc (.cells #[.slice (some ⟨a, 0, none⟩) n cap] 24)).cell? ⟨w.heap.size, 0, none⟩ = some (.slice (some ⟨a, 0, none⟩) n cap) := by simp
    have H47 : Hid (Calls Tryd.prog 89 #[.slice (some ⟨a, 0, none⟩) n cap] (w.alloc (.cells #[.slice (some ⟨a, 0, none⟩) n cap] 24)) fun e w' => e = .returned (.bool true) ∧ w' = w.alloc (.cells #[.slice (some ⟨a, 0, none⟩) n cap] 24)) := h47
    have h34 : Hid (Calls Tryd.prog 80 #[.slice (some ⟨a, 0, none⟩) n cap, .func (.func 88) #[] #[.pointer (some ⟨w.heap.size, 0, none⟩)]] (w.alloc (.cells #[.slice (some ⟨a, 0, none⟩) n cap] 24)) fun e w' => e = .returned (.bool (!allB (gdI O D A B C X n) n)) ∧ Below (w.alloc (.cells #[.slice (some ⟨a, 0, none⟩) n cap] 24)).heap.size (w.alloc (.cells #[.slice (some ⟨a, 0, none⟩) n cap] 24)) w') := contains34 n a cap w.heap.size O D A B C X _ (G.below BW) RW hX (by omega) (by omega) _ _ cW
    clear BW RW h47 hX R G hq q1 q2 cW
    generalize allB (gdI O D A B C X n) n = F at h34 ⊢
    go_enter Tryd.func56, Tryd.ntmps56
    go_wp2_with (first | (go_at_call 89; refine H47.out.mono ?_; rintro e w1 ⟨rfl, hw⟩; subst w1) | (go_at_call 80; refine h34.out.mono ?_; rintro e w1 ⟨rfl, B1⟩))
    go_ret
    exact ⟨by cases F <;> rfl, HB.out.trans (B1.mono HB.out.size)⟩
end Go.Proofs.YtcgapochcahknaaDoor
