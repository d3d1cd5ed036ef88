/- Contracts of GoodFields, the program's and the model's: both answer goodFs of the row; conditions: names at most 2^20 long, the row in memory. -/
import Derived.Test.YteakeaclpcgopaaFlds
import Derived.Laws.AppendOwn
import Derived.Deep.AppendLies
namespace Go.Proofs.Yteakeaclpcgopaa
open Go.ChangeShapes Go.WideShapes Go.ChangeAt Go.RowKit
set_option linter.unusedVariables false
/-- Whether a field is as said, but for other names. -/
def okF (k t : ByteArray) (j : Int) : Bool := Tk.goodB k && decide (kOf t ≤ 8) && decide (0 ≤ j ∧ j ≤ 64)
/-- Whether the first n fields are as said, and no two names alike. -/
def allG (K T : Nat → ByteArray) (J : Nat → Int) : Nat → Bool
  | 0 => true
  | n + 1 => allG K T J n && (okF (K n) (T n) (J n) && !Tk.isIn K (K n) n)
def goodFs (K T : Nat → ByteArray) (J : Nat → Int) (n : Nat) : Bool := decide (1 ≤ n ∧ n ≤ 12) && allG K T J n
theorem allG_stop (K T : Nat → ByteArray) (J : Nat → Int) (k : Nat) (h : (okF (K k) (T k) (J k) && !Tk.isIn K (K k) k) = false) : ∀ n, k < n → allG K T J n = false
  | 0, hn => by omega
  | n + 1, hn => by
    rw [allG]
    by_cases e : k = n
    · subst e; rw [h]; simp
    · rw [allG_stop K T J k h n (by omega)]; rfl
set_option maxRecDepth 100000 in
set_option maxHeartbeats 4000000 in
theorem goodField40 (k t : ByteArray) (j : Int) (w : World) (hk : k.size ≤ 1048576) : Calls Try.prog 40 #[.agg #[.string k, .string t, .int .i64 j]] w fun e w' => e = .returned (.bool (okF k t j)) ∧ Below w.heap.size w w' := by
  have hg := fun w => Tk.good14 k w hk
  have ht := fun w => isType48 t w
  unfold okF
  generalize Tk.goodB k = G at hg ⊢
  generalize decide (kOf t ≤ 8) = D at ht ⊢
  have X0 := fun w : World => C3.new w (.string k) (.string t) (.int .i64 j) 61
  cases G
  case false =>
    go_enter Try.func40, Try.ntmps40
    go_wp2_with (go_at_call 78; refine (hg _).mono ?_; rintro e w1 ⟨rfl, B1⟩)
    go_ret
    exact ⟨rfl, ((Below.refl _ _).alloc (Nat.le_refl _) _).trans (B1.mono (by simp))⟩
  cases D
  case false =>
    go_enter Try.func40, Try.ntmps40
    go_wp2_with (first | (go_at_call 78; refine (hg _).mono ?_; rintro e w1 ⟨rfl, B1⟩; (obtain ⟨c0, c1, c2, _, _, _, hi⟩ := (X0 w).next B1)) | (go_at_call 48; refine (ht _).mono ?_; rintro e w2 ⟨rfl, B2⟩))
    go_ret
    exact ⟨rfl, (((Below.refl _ _).alloc (Nat.le_refl _) _).trans (B1.mono (by simp))).trans (B2.mono (by omega))⟩
  by_cases j0 : 0 ≤ j
  · by_cases j1 : j ≤ 64
    · rw [decide_eq_true ⟨j0, j1⟩]
      go_enter Try.func40, Try.ntmps40
      go_wp2_with (first | (go_at_call 78; refine (hg _).mono ?_; rintro e w1 ⟨rfl, B1⟩; (have Y := (X0 w).next B1); (obtain ⟨c0, c1, c2, _, _, _, hi⟩ := Y)) | (go_at_call 48; refine (ht _).mono ?_; rintro e w2 ⟨rfl, B2⟩; (obtain ⟨d0, d1, d2, _, _, _, _⟩ := ((X0 w).next B1).next B2)))
      go_ret
      exact ⟨rfl, (((Below.refl _ _).alloc (Nat.le_refl _) _).trans (B1.mono (by simp))).trans (B2.mono (by omega))⟩
    · rw [decide_eq_false (show ¬ (0 ≤ j ∧ j ≤ 64) from fun h => j1 h.2)]
      go_enter Try.func40, Try.ntmps40
      go_wp2_with (first | (go_at_call 78; refine (hg _).mono ?_; rintro e w1 ⟨rfl, B1⟩; (have Y := (X0 w).next B1); (obtain ⟨c0, c1, c2, _, _, _, hi⟩ := Y)) | (go_at_call 48; refine (ht _).mono ?_; rintro e w2 ⟨rfl, B2⟩; (obtain ⟨d0, d1, d2, _, _, _, _⟩ := ((X0 w).next B1).next B2)))
      go_ret
      exact ⟨by show Ending.returned (.bool (decide (j ≤ 64))) = _; rw [decide_eq_false (by omega)]; rfl, (((Below.refl _ _).alloc (Nat.le_refl _) _).trans (B1.mono (by simp))).trans (B2.mono (by omega))⟩
  · rw [decide_eq_false (fun h => j0 h.1)]
    go_enter Try.func40, Try.ntmps40
    go_wp2_with (first | (go_at_call 78; refine (hg _).mono ?_; rintro e w1 ⟨rfl, B1⟩; (have Y := (X0 w).next B1); (obtain ⟨c0, c1, c2, _, _, _, hi⟩ := Y)) | (go_at_call 48; refine (ht _).mono ?_; rintro e w2 ⟨rfl, B2⟩; (obtain ⟨d0, d1, d2, _, _, _, _⟩ := ((X0 w).next B1).next B2)))
    go_ret
    exact ⟨rfl, (((Below.refl _ _).alloc (Nat.le_refl _) _).trans (B1.mono (by simp))).trans (B2.mono (by omega))⟩
set_option maxRecDepth 100000 in
set_option maxHeartbeats 4000000 in
theorem index0 (s : ByteArray) (w : World) : Calls Try.prog 79 #[.slice none 0 0, .string s] w fun e w' => e = .returned (.int .i64 (-1)) ∧ w' = w := by
  go_enter Try.func79, Try.ntmps79
  go_wp2
  refine wp_loop_rounds 1 ?_
  rw [rounds_succ]
  go_wp2
  go_ret
  exact ⟨rfl, rfl⟩
theorem contains0 (s : ByteArray) (w : World) : Calls Try.prog 41 #[.slice none 0 0, .string s] w fun e w' => e = .returned (.bool false) ∧ w' = w := by
  have h := index0 s w
  go_enter Try.func41, Try.ntmps41
  go_wp2_with (go_at_call 79; refine h.mono ?_; rintro e w' ⟨rfl, hw⟩; subst w')
  go_ret
  exact ⟨rfl, rfl⟩
theorem info9 : (Try.prog.info? 9).map (fun i => (i.zero, i.size, i.bytes)) = some (some (.string ⟨#[]⟩), 1, 16) := by kernel_rfl
theorem owns_next {w w' : World} {base : Nat} {e : TypeId} {size : Nat} {v : Value} {n : Nat} {xs : List Value} (h : w.ownsRow base e size v n xs) (B : Below w.heap.size w w') : w'.ownsRow base e size v n xs := by
  refine ⟨h.1, ?_⟩
  rcases h.2 with hn | ⟨g, cap, cur, rfl, hb, hgg, rest⟩
  · exact .inl hn
  · refine .inr ⟨g, cap, cur, rfl, hb, ?_, rest⟩
    rw [B.block g (Array.getElem?_eq_some_iff.1 hgg).1]
    exact hgg
/-- A list of names in memory. -/
theorem containsV {w : World} {B k : Nat} {v : Value} (K : Nat → ByteArray) (s : ByteArray) (h : w.ownsRow B 9 1 v k ((List.range k).map fun i => .string (K i))) (h0 : k = 0 → v = .slice none 0 0) (hk : k ≤ 12) : Calls Try.prog 41 #[v, .string s] w fun e w' => e = .returned (.bool (Tk.isIn K s k)) ∧ w' = w := by
  by_cases e : k = 0
  · subst e
    rw [h0 rfl]
    exact contains0 s w
  · obtain ⟨g, cap, rfl, hg, _⟩ := World.ownsRow.form h (by omega)
    exact Tk.contains25 k g cap K s w (by omega) (Tk.own_owned h (fun i => .string (K i)) (fun i hi => by simp [hi])).cell
set_option maxRecDepth 100000 in
set_option maxHeartbeats 4000000 in
theorem good12 (n a cap : Nat) (K T : Nat → ByteArray) (J : Nat → Int) (w : World) (X : Row3 w a n K T J) (hn : n ≤ 1048576) (hK : ∀ i, i < n → (K i).size ≤ 1048576) : Calls Try.prog 12 #[.slice (some ⟨a, 0, none⟩) n cap] w fun e w' => e = .returned (.bool (goodFs K T J n)) ∧ Below w.heap.size w w' := by
  unfold goodFs
  by_cases e0 : n = 0
  · subst e0
    go_enter Try.func12, Try.ntmps12
    go_wp2
    go_ret
    exact ⟨rfl, Below.refl _ _⟩
  have e0' : ((n : Int) == 0) = false := by simp; omega
  by_cases e1 : 12 < n
  · have e1' : (12 : Int) < (n : Int) := by omega
    rw [decide_eq_false (by omega)]
    go_enter Try.func12, Try.ntmps12
    go_wp2
    go_ret
    exact ⟨rfl, Below.refl _ _⟩
  have e1' : (n : Int) ≤ 12 := by omega
  rw [decide_eq_true (by omega)]
  obtain ⟨i0', hi, hz0, hz1, hz2⟩ := info_parts info9
  have HG : Hid (∀ i, i < n → ∀ w, Calls Try.prog 40 #[.agg #[.string (K i), .string (T i), .int .i64 (J i)]] w fun e w' => e = .returned (.bool (okF (K i) (T i) (J i))) ∧ Below w.heap.size w w') := fun i hi w => goodField40 _ _ _ w (hK i hi)
  clear hK
  go_enter Try.func12, Try.ntmps12
  go_wp2
  go_loopw [3, 16] (fun v i wr => ∃ (k : Nat) (u : Value), k ≤ n ∧ i = .int .i64 k ∧ u = v ∧ wr.ownsRow w.heap.size 9 1 u k ((List.range k).map fun i => .string (K i)) ∧ (k = 0 → u = .slice none 0 0) ∧ allG K T J k = true ∧ Below w.heap.size w wr) (fun _ i _ => n - (intOf i).toNat)
  case atStart => exact ⟨0, _, by omega, rfl, rfl, World.ownsRow_nil _ _ _ _, fun _ => rfl, rfl, Below.refl _ _⟩
  case round =>
    obtain ⟨k, v, hk, rfl, rfl, hown, hv0, hall, B⟩ := hrel
    by_cases hkn : k < n
    · have i1 : (k : Int) < (n : Int) := by omega
      have i0 : (0 : Int) ≤ (k : Int) := by omega
      have XX := X.next B
      have c0 := XX.k k hkn
      have c1 := XX.t k hkn
      have c2 := XX.j k hkn
      have Y := C3.new wr (.string (K k)) (.string (T k)) (.int .i64 (J k)) 61
      have hb0 : Below wr.heap.size wr (wr.alloc (.cells #[.string (K k), .string (T k), .int .i64 (J k)] 61)) := (Below.refl _ _).alloc (Nat.le_refl _) _
      have hfield := HG.out k hkn
      have HO : Hid (∀ w', Below (wr.alloc (.cells #[.string (K k), .string (T k), .int .i64 (J k)] 61)).heap.size (wr.alloc (.cells #[.string (K k), .string (T k), .int .i64 (J k)] 61)) w' → w'.ownsRow w.heap.size 9 1 v k ((List.range k).map fun i => .string (K i))) := fun w' b => owns_next (owns_next hown hb0) b
      have HC : Hid (∀ w', Below (wr.alloc (.cells #[.string (K k), .string (T k), .int .i64 (J k)] 61)).heap.size (wr.alloc (.cells #[.string (K k), .string (T k), .int .i64 (J k)] 61)) w' → Calls Try.prog 41 #[v, .string (K k)] w' fun e w'' => e = .returned (.bool (Tk.isIn K (K k) k)) ∧ w'' = w') := fun w' b => containsV K (K k) (HO.out w' b) hv0 (by omega)
      have HA := allG_stop K T J k
      have HS : Hid (allG K T J (k + 1) = (allG K T J k && (okF (K k) (T k) (J k) && !Tk.isIn K (K k) k))) := rfl
      have HBe : Hid (Below w.heap.size w (wr.alloc (.cells #[.string (K k), .string (T k), .int .i64 (J k)] 61))) := B.alloc B.size _
      clear XX
      cases hok : okF (K k) (T k) (J k)
      case false =>
        rw [hok] at hfield HA
        go_wp2_with (go_at_call 40; refine (hfield _).mono ?_; rintro e w1 ⟨rfl, B1⟩)
        go_ret
        exact ⟨by rw [HA rfl n hkn]; rfl, HBe.out.trans (B1.mono (by have := B.size; simp; omega))⟩
      rw [hok] at hfield
      cases hin : Tk.isIn K (K k) k
      case true =>
        rw [hin, hok] at HA
        rw [hin] at HC
        go_wp2_with (first | (go_at_call 40; refine (hfield _).mono ?_; rintro e w1 ⟨rfl, B1⟩; (obtain ⟨d0, d1, d2, _, _, _, _⟩ := Y.next B1)) | (go_at_call 41; refine (HC.out w1 B1).mono ?_; rintro e w' ⟨rfl, hw⟩; subst w'))
        go_ret
        exact ⟨by rw [HA rfl n hkn]; rfl, HBe.out.trans (B1.mono (by have := B.size; simp; omega))⟩
      rw [hin] at HC
      rw [hok, hin, hall] at HS
      go_wp2_with (first | (go_at_call 40; refine (hfield _).mono ?_; rintro e w1 ⟨rfl, B1⟩; (obtain ⟨d0, d1, d2, _, _, _, _⟩ := Y.next B1)) | (go_at_call 41; refine (HC.out w1 B1).mono ?_; rintro e w' ⟨rfl, hw⟩; subst w') | (at_builtin; refine wpList_append_own _ rfl _ _ 64 rfl (w.heap.size) 9 i0' (.string ⟨#[]⟩) 1 16 Try.underlying64 hi hz0 hz1 hz2 rfl (by decide) _ _ _ rfl ((HO.out w1 B1).alloc _) ⟨w1.heap.size, 0, none⟩ 1 1 [.string (K k)] rfl rfl ?c1 ?c2 ?c3 ?c4 ?c5 ?_))
      case c1 =>
        intro j u hj
        match j, hj with
        | 0, hj => simp at hj; subst hj; simp [Addr.add]
      case c2 => intro u hu; simp at hu; subst hu; rfl
      case c3 => unfold maxLen; omega
      case c4 => omega
      case c5 => have := B1.size; have := B.size; simp at *; omega
      · intro v' w2 hown' hgrow hnil
        have R1 : w2.ownsRow w.heap.size 9 1 v' (k + 1) ((List.range (k + 1)).map fun i => .string (K i)) := by rw [List.range_succ, List.map_append]; exact hown'
        have z1 := B1.size
        have z2 := B.size
        have R2 : Below w.heap.size w w2 := ((HBe.out.trans (B1.mono (by simp; omega))).alloc (by simp at z1; omega) _).grown hgrow (by simp at z1 ⊢; omega) (fun q hq => by have := (hown.lt q hq).1; omega)
        clear hown' hgrow hown B hnil
        go_wp2
        go_roundw
        case rel => exact ⟨k + 1, _, by omega, by go_num, rfl, R1, fun h => by omega, by rw [HS.out]; rfl, R2⟩
        case measure => simp [intOf]; omega
    · have hkk : k = n := by omega
      subst hkk
      go_wp2
      go_ret
      exact ⟨by rw [hall]; rfl, B⟩
theorem tszR_pos (k : Nat) : (tszR k 0 == 0) = !decide (k ≤ 8) := by
  by_cases h : k ≤ 8
  · have := tal_bounds k 0 h (by decide)
    rw [decide_eq_true h]
    unfold tszR
    rw [if_pos ⟨by decide, h⟩]
    simp
    omega
  · rw [decide_eq_false h]
    unfold tszR
    rw [if_neg (by omega)]
    rfl
set_option maxRecDepth 100000 in
set_option maxHeartbeats 4000000 in
theorem good10 (n a : Nat) (K T : Nat → ByteArray) (J : Nat → Int) (w : World) (X : Row3 w a n K T J) (hn : n ≤ 1048576) (hK : ∀ i, i < n → (K i).size ≤ 1048576) : Calls Try.prog 10 #[.slice (some ⟨a, 0, none⟩) n n] w fun e w' => e = .returned (.bool (goodFs K T J n)) ∧ Below w.heap.size w w' := by
  unfold goodFs
  by_cases e0 : n = 0
  · subst e0
    go_enter Try.func10, Try.ntmps10
    go_wp2
    go_ret
    exact ⟨rfl, Below.refl _ _⟩
  have e0' : ¬ (n : Int) < 1 := by omega
  by_cases e1 : 12 < n
  · have e1' : (12 : Int) < (n : Int) := by omega
    rw [decide_eq_false (by omega)]
    go_enter Try.func10, Try.ntmps10
    go_wp2
    go_ret
    exact ⟨rfl, Below.refl _ _⟩
  have e1' : (n : Int) ≤ 12 := by omega
  rw [decide_eq_true (by omega)]
  have HG : Hid (∀ i, i < n → ∀ w, Calls Try.prog 38 #[.string (K i)] w fun e w' => e = .returned (.bool (Tk.goodB (K i))) ∧ Below w.heap.size w w') := fun i hi w => Tk.good13 _ w (hK i hi)
  clear hK
  go_enter Try.func10, Try.ntmps10
  go_wp2
  go_loopw [19] (fun i wr => ∃ k : Nat, k ≤ n ∧ i = .int .i64 k ∧ allG K T J k = true ∧ Below w.heap.size w wr) (fun i _ => n - (intOf i).toNat)
  case atStart => exact ⟨0, by omega, rfl, rfl, Below.refl _ _⟩
  case round =>
    obtain ⟨k, hk, rfl, hall, B⟩ := hrel
    by_cases hkn : k < n
    · have i1 : (k : Int) < (n : Int) := by omega
      have i0 : (0 : Int) ≤ (k : Int) := by omega
      have XX := X.next B
      have c0 := XX.k k hkn
      have c1 := XX.t k hkn
      have c2 := XX.j k hkn
      have Y := C3.new wr (.string (K k)) (.string (T k)) (.int .i64 (J k)) 61
      have hname := HG.out k hkn
      have HA := allG_stop K T J k
      have HS : Hid (allG K T J (k + 1) = (allG K T J k && (okF (K k) (T k) (J k) && !Tk.isIn K (K k) k))) := rfl
      have HBe : Hid (Below w.heap.size w (wr.alloc (.cells #[.string (K k), .string (T k), .int .i64 (J k)] 61))) := B.alloc B.size _
      have hsz := fun w => size14 (T k) 0 w
      have hts := tszR_pos (kOf (T k))
      have hok : okF (K k) (T k) (J k) = (Tk.goodB (K k) && decide (kOf (T k) ≤ 8) && decide (0 ≤ J k ∧ J k ≤ 64)) := rfl
      generalize decide (kOf (T k) ≤ 8) = D at hts hok
      generalize tszR (kOf (T k)) 0 = Z at hts hsz
      generalize talR (kOf (T k)) 0 = A at hsz
      generalize Tk.goodB (K k) = G at hname hok
      have hXn : ∀ w', Below wr.heap.size wr w' → Row3 w' a n K T J := fun w' b => XX.next b
      have HX : Hid (∀ w', Below wr.heap.size wr w' → Row3 w' a n K T J) := hXn
      clear XX hXn
      cases G
      case false =>
        rw [hok] at HA
        go_wp2_with (first | (go_at_call 14; refine (hsz _).mono ?_; rintro e w' ⟨rfl, hw⟩; subst w') | (go_at_call 38; refine (hname _).mono ?_; rintro e w1 ⟨rfl, B1⟩))
        go_ret
        exact ⟨by rw [HA rfl n hkn]; rfl, HBe.out.trans (B1.mono (by have := B.size; simp; omega))⟩
      cases D
      case false =>
        rw [hok] at HA
        go_wp2_with (first | (go_at_call 14; refine (hsz _).mono ?_; rintro e w' ⟨rfl, hw⟩; subst w') | (go_at_call 38; refine (hname _).mono ?_; rintro e w1 ⟨rfl, B1⟩; (obtain ⟨d0, d1, d2, _, _, _, _⟩ := Y.next B1)))
        go_ret
        exact ⟨by rw [HA rfl n hkn]; rfl, HBe.out.trans (B1.mono (by have := B.size; simp; omega))⟩
      by_cases j0 : 0 ≤ J k
      case neg =>
        rw [hok, decide_eq_false (show ¬ (0 ≤ J k ∧ J k ≤ 64) from fun h => j0 h.1)] at HA
        have j0' : J k < 0 := by omega
        go_wp2_with (first | (go_at_call 14; refine (hsz _).mono ?_; rintro e w' ⟨rfl, hw⟩; subst w') | (go_at_call 38; refine (hname _).mono ?_; rintro e w1 ⟨rfl, B1⟩; (obtain ⟨d0, d1, d2, _, _, _, _⟩ := Y.next B1)))
        go_ret
        exact ⟨by rw [HA rfl n hkn]; rfl, HBe.out.trans (B1.mono (by have := B.size; simp; omega))⟩
      by_cases j1 : J k ≤ 64
      case neg =>
        rw [hok, decide_eq_false (show ¬ (0 ≤ J k ∧ J k ≤ 64) from fun h => j1 h.2)] at HA
        have j1' : 64 < J k := by omega
        go_wp2_with (first | (go_at_call 14; refine (hsz _).mono ?_; rintro e w' ⟨rfl, hw⟩; subst w') | (go_at_call 38; refine (hname _).mono ?_; rintro e w1 ⟨rfl, B1⟩; (obtain ⟨d0, d1, d2, _, _, _, _⟩ := Y.next B1)))
        go_ret
        exact ⟨by rw [HA rfl n hkn]; rfl, HBe.out.trans (B1.mono (by have := B.size; simp; omega))⟩
      rw [decide_eq_true (show 0 ≤ J k ∧ J k ≤ 64 from ⟨j0, j1⟩)] at hok
      rw [hok] at HA
      rw [hok, hall] at HS
      have hkn' : (k : Int) ≤ (n : Int) := by omega
      go_wp2_with (first | (go_at_call 14; refine (hsz _).mono ?_; rintro e w' ⟨rfl, hw⟩; subst w') | (go_at_call 38; refine (hname _).mono ?_; rintro e w1 ⟨rfl, B1⟩; (obtain ⟨d0, d1, d2, _, _, _, _⟩ := Y.next B1)))
      have BB : Below w.heap.size w w1 := HBe.out.trans (B1.mono (by have := B.size; simp; omega))
      have RW : Row3 w1 a n K T J := HX.out w1 (((Below.refl _ _).alloc (Nat.le_refl _) _).trans (B1.mono (by simp)))
      have YW := Y.next B1
      go_loopw [52] (fun i wx => ∃ m : Nat, m ≤ k ∧ i = .int .i64 m ∧ Hid (Tk.isIn K (K k) m = false) ∧ Below w1.heap.size w1 wx) (fun i _ => k - (intOf i).toNat)
      case atStart => exact ⟨0, by omega, rfl, rfl, Below.refl _ _⟩
      case round =>
        obtain ⟨m, hm, rfl, HI, BX⟩ := hrel
        have RX := RW.next BX
        have YX := YW.next BX
        by_cases hmk : m < k
        · have m1 : (m : Int) < (k : Int) := by omega
          have m0 : (0 : Int) ≤ (m : Int) := by omega
          have a0 := RX.k m (by omega)
          have a1 := RX.t m (by omega)
          have a2 := RX.j m (by omega)
          obtain ⟨y0, y1, y2, _, _, _, yh⟩ := YX.alloc (.cells #[.string (K m), .string (T m), .int .i64 (J m)] 61)
          have BZ : Hid (Below w1.heap.size w1 (wr.alloc (.cells #[.string (K m), .string (T m), .int .i64 (J m)] 61))) := BX.alloc BX.size _
          by_cases hq : K m = K k
          · have HR : Hid (Tk.isIn K (K k) k = true) := Tk.isIn_true K (K k) m hq k hmk
            rw [HR.out] at HA
            have hl : ((K m).toList == (K k).toList) = true := by rw [hq]; simp
            clear hq
            go_wp2
            go_ret
            exact ⟨by rw [HA rfl n hkn]; rfl, BB.trans (BZ.out.mono BB.size)⟩
          · have HN : Hid (Tk.isIn K (K k) (m + 1) = false) := by show _ = _; unfold Tk.isIn; rw [HI.out]; simp [hq]
            have hl := Tk.texts_ne hq
            clear hq
            go_wp2
            go_roundw
            case rel => exact ⟨m + 1, by omega, by go_num, HN, BZ.out⟩
            case measure => simp [intOf]; omega
        · have hmm : m = k := by omega
          subst hmm
          rw [HI.out] at HS
          go_wp2
          go_roundw
          case rel => exact ⟨m + 1, by omega, by go_num, by rw [HS.out]; rfl, BB.trans (BX.mono BB.size)⟩
          case measure => simp [intOf]; omega
    · have hkk : k = n := by omega
      subst hkk
      go_wp2
      go_ret
      exact ⟨by rw [hall]; rfl, B⟩
end Go.Proofs.Yteakeaclpcgopaa
