/- Orders: what is told without a program, the model's l9Order and l14By. The model's l14By; a row in another order, told without a program. The model's Reorder. The program's Contains, isOrder; ContainsFunc with keptBy's closure. The program's keptBy. The program's Reorder. The walk of the law FnExactReorder: a row of instructions and an order, a row of instructions and a bool. -/
import Derived.Test.YtcgapochcahknaaDoorMal
import Derived.Test.YtcgapochcahknaaDoorCpm
import Derived.Test.YtcgapochcahknaaDoorMcy
import Derived.Test.YtcgapochcahknaaDoorRof
import Derived.Test.YtcgapochcahknaaDoorRwm
import Derived.Test.YtcgapochcahknaaDoorRis
import Derived.Test.YtcgapochcahknaaDoorIss
namespace Go.Proofs.YtcgapochcahknaaDoor
open Go.ChangeShapes Go.WideShapes Go.ChangeAt Go.RowKit
set_option linter.unusedVariables false
theorem inj_surj : ∀ (n : Nat) (f : Nat → Nat), (∀ k, k < n → f k < n) → (∀ k l, k < n → l < n → f k = f l → k = l) → ∀ i, i < n → ∃ k, k < n ∧ f k = i
  | 0, f, _, _, i, hi => absurd hi (Nat.not_lt_zero _)
  | n + 1, f, hb, hj, i, hi => by
    have hm := hb n (Nat.lt_succ_self n)
    have ih := inj_surj n (fun k => if f k = n then f n else f k) (fun k hk => by
      show (if f k = n then f n else f k) < n
      have h1 := hb k (by omega)
      split
      · rename_i e
        have : f n ≠ n := fun h => by have := hj k n (by omega) (by omega) (by rw [e, h]); omega
        omega
      · omega) (fun k l hk hl h => by
      have h : (if f k = n then f n else f k) = (if f l = n then f n else f l) := h
      by_cases e1 : f k = n
      · by_cases e2 : f l = n
        · exact hj k l (by omega) (by omega) (by rw [e1, e2])
        · rw [if_pos e1, if_neg e2] at h
          have := hj n l (by omega) (by omega) h
          omega
      · by_cases e2 : f l = n
        · rw [if_neg e1, if_pos e2] at h
          have := hj k n (by omega) (by omega) h
          omega
        · rw [if_neg e1, if_neg e2] at h
          exact hj k l (by omega) (by omega) h)
    by_cases e : i = f n
    · exact ⟨n, by omega, e.symm⟩
    · by_cases e2 : i = n
      · obtain ⟨k, hk, h⟩ := ih (f n) (by omega)
        have h : (if f k = n then f n else f k) = f n := h
        by_cases e1 : f k = n
        · exact ⟨k, by omega, by omega⟩
        · rw [if_neg e1] at h
          have := hj k n (by omega) (by omega) h
          omega
      · obtain ⟨k, hk, h⟩ := ih i (by omega)
        have h : (if f k = n then f n else f k) = i := h
        by_cases e1 : f k = n
        · rw [if_pos e1] at h; exact absurd h.symm e
        · rw [if_neg e1] at h; exact ⟨k, by omega, h⟩
/-- x stands in one of the first k places. -/
def seenB (ps : List Int) : Nat → Int → Bool
  | 0, _ => false
  | k + 1, x => seenB ps k x || decide (ps.getD k 0 = x)
theorem seenB_iff (ps : List Int) (x : Int) : ∀ k, seenB ps k x = true ↔ ∃ j, j < k ∧ ps.getD j 0 = x
  | 0 => ⟨fun h => absurd h Bool.false_ne_true, fun ⟨j, h, _⟩ => absurd h (Nat.not_lt_zero _)⟩
  | k + 1 => by
    rw [seenB, Bool.or_eq_true, seenB_iff ps x k, decide_eq_true_iff]
    constructor
    · rintro (⟨j, h1, h2⟩ | h)
      · exact ⟨j, by omega, h2⟩
      · exact ⟨k, by omega, h⟩
    · rintro ⟨j, h1, h2⟩
      by_cases e : j = k
      · subst e; exact Or.inr h2
      · exact Or.inl ⟨j, by omega, h2⟩
def okK (ps : List Int) (n k : Nat) : Bool := (decide (0 ≤ ps.getD k 0) && decide (ps.getD k 0 < (n : Int))) && !seenB ps k (ps.getD k 0)
/-- An order of the numbers below n. -/
def ordB (ps : List Int) (n : Nat) : Bool := decide (ps.length = n) && allB (okK ps n) n
/-- .. each of them stands in it. -/
def hasB (ps : List Int) (n : Nat) : Bool := decide (ps.length = n) && allB (fun i => seenB ps n (i : Int)) n
theorem okK_iff (ps : List Int) (n : Nat) : allB (okK ps n) n = true ↔ (∀ k, k < n → 0 ≤ ps.getD k 0 ∧ ps.getD k 0 < (n : Int)) ∧ ∀ k l, k < n → l < n → ps.getD k 0 = ps.getD l 0 → k = l := by
  have key : ∀ k, okK ps n k = true ↔ (0 ≤ ps.getD k 0 ∧ ps.getD k 0 < (n : Int)) ∧ ∀ j, j < k → ps.getD j 0 ≠ ps.getD k 0 := fun k => by
    unfold okK
    rw [Bool.and_eq_true, Bool.and_eq_true, decide_eq_true_iff, decide_eq_true_iff, Bool.not_eq_true', ← Bool.not_eq_true, seenB_iff]
    constructor
    · rintro ⟨h1, h2⟩; exact ⟨h1, fun j hj e => h2 ⟨j, hj, e⟩⟩
    · rintro ⟨h1, h2⟩; exact ⟨h1, fun ⟨j, hj, e⟩ => h2 j hj e⟩
  constructor
  · intro h
    refine ⟨fun k hk => ((key k).1 (allB_at _ n k h hk)).1, fun k l hk hl e => ?_⟩
    have h1 := ((key k).1 (allB_at _ n k h hk)).2
    have h2 := ((key l).1 (allB_at _ n l h hl)).2
    rcases Nat.lt_trichotomy k l with q | q | q
    · exact absurd e (h2 k q)
    · exact q
    · exact absurd e.symm (h1 l q)
  · rintro ⟨h1, h2⟩
    exact allB_all _ n (fun k hk => (key k).2 ⟨h1 k hk, fun j hj e => by have := h2 j k (by omega) hk e; omega⟩)
theorem has_ord (ps : List Int) (n : Nat) : hasB ps n = ordB ps n := by
  unfold hasB ordB
  congr 1
  rw [Bool.eq_iff_iff, okK_iff]
  constructor
  · intro h
    have hs : ∀ i, i < n → ∃ k, k < n ∧ ps.getD k 0 = (i : Int) := fun i hi => (seenB_iff ps (i : Int) n).1 (allB_at _ n i h hi)
    have hg : ∀ i, ∃ k, i < n → k < n ∧ ps.getD k 0 = (i : Int) := fun i => by
      by_cases hi : i < n
      · obtain ⟨k, hk⟩ := hs i hi; exact ⟨k, fun _ => hk⟩
      · exact ⟨0, fun q => absurd q hi⟩
    have g := fun i => (hg i).choose_spec
    have sj := inj_surj n (fun i => (hg i).choose) (fun i hi => (g i hi).1) (fun i j hi hj e => by
      have h1 := (g i hi).2
      have h2 := (g j hj).2
      have e : (hg i).choose = (hg j).choose := e
      rw [e, h2] at h1
      omega)
    have sj : ∀ k, k < n → ∃ i, i < n ∧ (hg i).choose = k := sj
    have pk : ∀ k, k < n → ∃ i : Nat, i < n ∧ ps.getD k 0 = (i : Int) ∧ (hg i).choose = k := fun k hk => by
      obtain ⟨i, h1, h2⟩ := sj k hk
      refine ⟨i, h1, ?_, h2⟩
      have := (g i h1).2
      rw [h2] at this
      exact this
    refine ⟨fun k hk => ?_, fun k l hk hl e => ?_⟩
    · obtain ⟨i, h1, h2, _⟩ := pk k hk; omega
    · obtain ⟨i, h1, h2, h3⟩ := pk k hk
      obtain ⟨j, h4, h5, h6⟩ := pk l hl
      obtain rfl : i = j := by omega
      rw [← h3, h6]
  · rintro ⟨h1, h2⟩
    refine allB_all _ n (fun i hi => (seenB_iff ps (i : Int) n).2 ?_)
    obtain ⟨k, h3, h4⟩ := inj_surj n (fun k => (ps.getD k 0).toNat) (fun k hk => by have := h1 k hk; show (ps.getD k 0).toNat < n; omega) (fun k l hk hl e => h2 k l hk hl (by
      have e : (ps.getD k 0).toNat = (ps.getD l 0).toNat := e
      have := h1 k hk
      have := h1 l hl
      omega)) i hi
    have h4 : (ps.getD k 0).toNat = i := h4
    have := h1 k h3
    exact ⟨k, h3, by omega⟩
theorem ordB_at {ps : List Int} {n : Nat} (h : ordB ps n = true) : ps.length = n ∧ ∀ k, k < n → 0 ≤ ps.getD k 0 ∧ ps.getD k 0 < (n : Int) := by
  unfold ordB at h
  rw [Bool.and_eq_true, decide_eq_true_iff] at h
  exact ⟨h.1, ((okK_iff ps n).1 h.2).1⟩
set_option maxRecDepth 100000 in
set_option maxHeartbeats 2000000 in
theorem morder (ps : List Int) (q : Value) (n : Nat) (w : World) (Q : ARow w q ps) (hn : n ≤ 64) : Calls Tryd.prog 51 #[q, .int .i64 (n : Int)] w fun e w' => e = .returned (.bool (ordB ps n)) ∧ Below w.heap.size w w' := by
  obtain ⟨i4, hi4, hz40, hz41, hz42⟩ := info_parts info4
  obtain ⟨oa, oc, rfl, hoa⟩ := Q
  have HO : Hid (ordB ps n = (decide (ps.length = n) && allB (okK ps n) n)) := rfl
  rw [HO.out]
  clear HO
  by_cases hl : ps.length = n
  case neg =>
    have l1 : ¬ (ps.length : Int) = (n : Int) := by omega
    rw [decide_eq_false hl]
    go_enter Tryd.func51, Tryd.ntmps51
    go_wp2
    go_ret
    exact ⟨rfl, Below.refl _ _⟩
  rw [decide_eq_true hl, hl, Bool.true_and]
  rw [hl] at hoa
  have HOA : Hid (∀ k, k < n → ∃ g o, oa = some ⟨g, o, none⟩ ∧ w.cell? ⟨g, o + k, none⟩ = some (.int .i64 (ps.getD k 0))) := hoa
  clear hoa hl
  go_enter Tryd.func51, Tryd.ntmps51
  go_wp2_with (at_make; refine wpList_make_full _ rfl _ _ 78 rfl w.heap.size 4 i4 (.bool false) 1 Tryd.underlying78 hi4 hz40 hz41 _ _ _ _ n rfl rfl (by first | rfl | omega) (by first | rfl | omega) (by rw [hz42]; omega) (by unfold maxLen; omega) (by simp) ?_; intro w2 hown2 hgrow2)
  have O2 : Hid (Own w2 w.heap.size n (fun i => .bool (seenB ps 0 (i : Int)))) := own_made hown2
  have B2 : Hid (Below w.heap.size w w2) := (Below.refl _ _).grown hgrow2 (Nat.le_refl _) (by simp)
  clear hown2 hgrow2
  obtain ⟨z, hz⟩ : ∃ z, w.heap.size = z := ⟨_, rfl⟩
  have HZ : Hid (w.heap.size = z) := hz
  rw [hz] at O2 ⊢
  clear hz
  go_loopw [16] (fun i wr => ∃ k : Nat, k ≤ n ∧ i = .int .i64 k ∧ Hid (∀ j, j < k → okK ps n j = true) ∧ Hid (Own wr z n (fun i => .bool (seenB ps k (i : Int)))) ∧ Hid (Below w.heap.size w wr)) (fun i _ => n - (intOf i).toNat)
  case atStart => exact ⟨0, Nat.zero_le _, rfl, fun j hj => by omega, O2, B2⟩
  case round =>
    obtain ⟨k, hk, rfl, HK, HS, HB⟩ := hrel
    clear O2 B2
    by_cases hkn : k < n
    · have j1 : (k : Int) < (n : Int) := by omega
      have j0 : (0 : Int) ≤ (k : Int) := by omega
      obtain ⟨g, o, rfl, hc⟩ := HOA.out k hkn
      have co := cell_nx hc HB.out
      have HG : Hid (okK ps n k = ((decide (0 ≤ ps.getD k 0) && decide (ps.getD k 0 < (n : Int))) && !seenB ps k (ps.getD k 0))) := rfl
      have HSN : Hid (∀ x, seenB ps (k + 1) x = (seenB ps k x || decide (ps.getD k 0 = x))) := fun x => rfl
      have ST : Hid (okK ps n k = false → allB (okK ps n) n = false) := fun h => allB_stop _ k h n hkn
      generalize ps.getD k 0 = x at co HG HSN
      clear hc
      by_cases x0 : 0 ≤ x
      case neg =>
        have x1 : x < 0 := by omega
        have HF := Hid.mk (ST.out (by rw [HG.out, decide_eq_false x0]; rfl))
        go_wp2
        go_ret
        exact ⟨by rw [HF.out]; rfl, HB.out⟩
      have x1 : ¬ x < 0 := by omega
      by_cases x2 : x < (n : Int)
      case neg =>
        have x3 : (n : Int) ≤ x := by omega
        have HF := Hid.mk (ST.out (by rw [HG.out, decide_eq_false x2, Bool.and_false]; rfl))
        go_wp2
        go_ret
        exact ⟨by rw [HF.out]; rfl, HB.out⟩
      have x3 : ¬ (n : Int) ≤ x := by omega
      obtain ⟨m, rfl⟩ : ∃ m : Nat, x = (m : Int) := ⟨x.toNat, by omega⟩
      have cs := HS.out.cell m (by omega)
      have fs := HS.out.free m
      have HG : Hid (okK ps n k = !seenB ps k (m : Int)) := by have := HG.out; rw [decide_eq_true x0, decide_eq_true x2] at this; exact this
      cases hs : seenB ps k (m : Int)
      · rw [hs] at cs HG
        have ON : Only z wr (wr.setCell ⟨z, m, none⟩ (.bool true)) := (Only.refl _ _).setCell _ _
        have S1 : Hid (Own (wr.setCell ⟨z, m, none⟩ (.bool true)) z n (fun i => .bool (seenB ps (k + 1) (i : Int)))) := HS.out.set m _ (by omega) (fun i hi => by
          rw [HSN.out]
          by_cases e : i = m
          · subst e; simp
          · have : ¬ (m : Int) = (i : Int) := by omega
            rw [if_neg e, decide_eq_false this, Bool.or_false])
        have B1 : Hid (Below w.heap.size w (wr.setCell ⟨z, m, none⟩ (.bool true))) := HB.out.trans (ON.below (by have := HZ.out; omega) HB.out.size)
        have HKN : Hid (∀ j, j < k + 1 → okK ps n j = true) := fun j hj => by
          by_cases q : j = k
          · subst q; rw [HG.out]; rfl
          · exact HK.out j (by omega)
        clear HK HS HB ON hs HG HSN ST
        go_wp2
        go_roundw
        case rel => exact ⟨k + 1, by omega, by go_num, HKN, S1, B1⟩
        case measure => simp [intOf]; omega
      · rw [hs] at cs HG
        have HF := Hid.mk (ST.out (by rw [HG.out]; rfl))
        go_wp2
        go_ret
        exact ⟨by rw [HF.out]; rfl, HB.out⟩
    · obtain rfl : n = k := by omega
      have j1 : ¬ (n : Int) < (n : Int) := by omega
      have HF := Hid.mk (allB_all _ n HK.out)
      go_wp2
      go_ret
      exact ⟨by rw [HF.out]; rfl, HB.out⟩
end Go.Proofs.YtcgapochcahknaaDoor
namespace Go.Proofs.YtcgapochcahknaaDoor
open Go.ChangeShapes Go.WideShapes Go.ChangeAt Go.RowKit
set_option linter.unusedVariables false
/-- The row, in an order. -/
def Rc.by (c : Rc) (ps : List Int) : Rc := ⟨fun k => c.O (ps.getD k 0).toNat, fun k => c.D (ps.getD k 0).toNat, fun k => c.A (ps.getD k 0).toNat, fun k => c.B (ps.getD k 0).toNat, fun k => c.C (ps.getD k 0).toNat, fun k => c.X (ps.getD k 0).toNat, c.n⟩
/-- Where each stands. -/
def atK (ps : List Int) : Nat → Nat → Nat
  | 0 => fun _ => 0
  | k + 1 => upN (atK ps k) (ps.getD k 0).toNat k
theorem atK_le (ps : List Int) : ∀ k i, atK ps k i ≤ k
  | 0, i => Nat.le_refl _
  | k + 1, i => by
    rw [atK]
    unfold upN
    split
    · omega
    · have := atK_le ps k i; omega
/-- j stands behind all that it needs. -/
def Rc.kj (c : Rc) (P : Nat → Nat) (j : Nat) : Bool := allB (fun q => decide (P ((c.nl j).getD q 0).toNat ≤ P j)) (c.nl j).length
def Rc.kp (c : Rc) (ps : List Int) : Bool := allB (c.kj (atK ps c.n)) c.n
/-- What Reorder says. -/
def Rc.ro (c : Rc) (ps : List Int) : Bool := (c.row && ordB ps c.n) && c.kp ps
def Rc.rn (c : Rc) (ps : List Int) : Nat := if c.ro ps then c.n else 0
theorem rowIV_of {w : World} {B' n : Nat} {u : Value} {O D A B C X : Nat → Int} (h : w.ownsRow B' 35 6 u n (cellsP O D A B C X n)) : RowIV w u n O D A B C X ∧ ∀ g, u.ownBlock = some g → B' ≤ g := by
  refine ⟨?_, fun g hg => (h.lt g hg).1⟩
  rcases h.2 with ⟨h1, h2⟩ | ⟨g, c, cur, rfl, _⟩
  · exact Or.inl ⟨h2, h1⟩
  · exact Or.inr ⟨g, c, rfl, rowI_of h⟩
theorem six_new {w : World} (o d a b c x : Int) : ∀ j u, [Value.int .i64 o, .int .i64 d, .int .i64 a, .int .i64 b, .int .i64 c, .int .u32 x][j]? = some u → (w.alloc (.cells #[.int .i64 o, .int .i64 d, .int .i64 a, .int .i64 b, .int .i64 c, .int .u32 x] 35)).cell? ((⟨w.heap.size, 0, none⟩ : Addr).add j) = some u := by
  intro j u hj
  match j, hj with
  | 0, hj => simp at hj; subst hj; simp [Addr.add]
  | 1, hj => simp at hj; subst hj; simp [Addr.add]
  | 2, hj => simp at hj; subst hj; simp [Addr.add]
  | 3, hj => simp at hj; subst hj; simp [Addr.add]
  | 4, hj => simp at hj; subst hj; simp [Addr.add]
  | 5, hj => simp at hj; subst hj; simp [Addr.add]
theorem six_one (o d a b c x : Int) : ∀ u ∈ [Value.int .i64 o, .int .i64 d, .int .i64 a, .int .i64 b, .int .i64 c, .int .u32 x], u.oneCell' = true := by
  intro u hu
  simp at hu
  rcases hu with rfl | rfl | rfl | rfl | rfl | rfl <;> rfl
set_option maxRecDepth 100000 in
set_option maxHeartbeats 4000000 in
theorem mby (b off cap : Nat) (c : Rc) (ps : List Int) (q : Value) (w : World) (R : Ir w b off c) (Q : ARow w q ps) (hn : c.n ≤ 64) (hl : ps.length = c.n) (hp : ∀ k, k < c.n → 0 ≤ ps.getD k 0 ∧ ps.getD k 0 < (c.n : Int)) : Calls Tryd.prog 52 #[.slice (some ⟨b, off, none⟩) c.n cap, q] w fun e w' => ∃ u, e = .returned u ∧ (RowIV w' u c.n (c.by ps).O (c.by ps).D (c.by ps).A (c.by ps).B (c.by ps).C (c.by ps).X ∧ ∀ g, u.ownBlock = some g → w.heap.size ≤ g) ∧ Below w.heap.size w w' := by
  obtain ⟨i5, hi5, hz50, hz51, hz52⟩ := info_parts infoI
  have HR := Hid.mk R
  obtain ⟨oa, oc, rfl, hoa⟩ := Q
  rw [hl] at hoa ⊢
  have HP := Hid.mk hp
  have HOA : Hid (∀ k, k < c.n → ∃ g o, oa = some ⟨g, o, none⟩ ∧ w.cell? ⟨g, o + k, none⟩ = some (.int .i64 (ps.getD k 0))) := hoa
  clear hoa hl hp R
  obtain ⟨n, hn2⟩ : ∃ n, c.n = n := ⟨_, rfl⟩
  have HN : Hid (c.n = n) := hn2
  rw [hn2] at hn HOA HP ⊢
  clear hn2
  go_enter Tryd.func52, Tryd.ntmps52
  go_wp2
  go_loopw [5, 10] (fun vv i wr => ∃ (k : Nat) (u : Value), k ≤ n ∧ i = .int .i64 k ∧ u = vv ∧ Hid (wr.ownsRow w.heap.size 35 6 u k (cellsP (c.by ps).O (c.by ps).D (c.by ps).A (c.by ps).B (c.by ps).C (c.by ps).X k)) ∧ Hid (Below w.heap.size w wr)) (fun _ i _ => n - (intOf i).toNat)
  case atStart => exact ⟨0, _, by omega, rfl, rfl, World.ownsRow_nil _ _ _ _, Below.refl _ _⟩
  case round =>
    obtain ⟨k, u, hk, rfl, rfl, HU, HB⟩ := hrel
    by_cases hkn : k < n
    · have i1 : (k : Int) < (n : Int) := by omega
      have i0 : (0 : Int) ≤ (k : Int) := by omega
      obtain ⟨g, o, rfl, hc⟩ := HOA.out k hkn
      have co := cell_nx hc HB.out
      obtain ⟨p0, p1⟩ := HP.out k hkn
      have HC : Hid (cellsP (c.by ps).O (c.by ps).D (c.by ps).A (c.by ps).B (c.by ps).C (c.by ps).X (k + 1) = cellsP (c.by ps).O (c.by ps).D (c.by ps).A (c.by ps).B (c.by ps).C (c.by ps).X k ++ [.int .i64 (c.O (ps.getD k 0).toNat), .int .i64 (c.D (ps.getD k 0).toNat), .int .i64 (c.A (ps.getD k 0).toNat), .int .i64 (c.B (ps.getD k 0).toNat), .int .i64 (c.C (ps.getD k 0).toNat), .int .u32 (c.X (ps.getD k 0).toNat)]) := rfl
      obtain ⟨m, hm⟩ : ∃ m : Nat, ps.getD k 0 = (m : Int) := ⟨(ps.getD k 0).toNat, by omega⟩
      rw [hm] at co p0 p1 HC
      rw [Int.toNat_natCast] at HC
      have m1 : m < c.n := by rw [HN.out]; omega
      have RK := HR.out.next HB.out
      have c0 := RK.c0 m m1
      have c1 := RK.c1 m m1
      have c2 := RK.c2 m m1
      have c3 := RK.c3 m m1
      have c4 := RK.c4 m m1
      have c5 := RK.c5 m m1
      clear RK hc hm
      go_wp2_with (at_builtin; refine wpList_append_own _ rfl _ _ 24 rfl w.heap.size 35 i5 (.agg #[.int .i64 0, .int .i64 0, .int .i64 0, .int .i64 0, .int .i64 0, .int .u32 0]) 6 48 Tryd.underlying24 hi5 hz50 hz51 hz52 rfl (by decide) _ _ _ rfl (HU.out.alloc _) ⟨_, 0, none⟩ 1 1 [.int .i64 (c.O m), .int .i64 (c.D m), .int .i64 (c.A m), .int .i64 (c.B m), .int .i64 (c.C m), .int .u32 (c.X m)] rfl rfl (six_new _ _ _ _ _ _) (six_one _ _ _ _ _ _) (by unfold maxLen; omega) (by omega) (by have := HB.out.size; simp; omega) ?_; intro v3 w3 hown hgrow _)
      have B3 : Hid (Below w.heap.size w w3) := (HB.out.alloc HB.out.size _).grown hgrow (by have := HB.out.size; simp; omega) (fun q hq => (HU.out.lt q hq).1)
      have U3 : Hid (w3.ownsRow w.heap.size 35 6 v3 (k + 1) (cellsP (c.by ps).O (c.by ps).D (c.by ps).A (c.by ps).B (c.by ps).C (c.by ps).X (k + 1))) := by
        show World.ownsRow _ _ _ _ _ _ _
        rw [HC.out]
        exact hown
      go_roundw
      case rel => exact ⟨k + 1, _, by omega, by go_num, rfl, U3, B3⟩
      case measure => simp [intOf]; omega
    · obtain rfl : n = k := by omega
      have i1 : ¬ (n : Int) < (n : Int) := by omega
      go_wp2
      go_ret
      exact ⟨_, rfl, rowIV_of HU.out, HB.out⟩
end Go.Proofs.YtcgapochcahknaaDoor
namespace Go.Proofs.YtcgapochcahknaaDoor
open Go.ChangeShapes Go.WideShapes Go.ChangeAt Go.RowKit
set_option linter.unusedVariables false
set_option maxRecDepth 100000 in
set_option maxHeartbeats 4000000 in
theorem mreorder (b off cap : Nat) (c : Rc) (ps : List Int) (q : Value) (w : World) (R : Ir w b off c) (hX : c.wd) (Q : ARow w q ps) (hn : c.n ≤ 1048576) : Calls Tryd.prog 26 #[.slice (some ⟨b, off, none⟩) c.n cap, q] w fun e w' => ∃ u, e = .returned (.tuple #[u, .bool (c.ro ps)]) ∧ (RowIV w' u (c.rn ps) (c.by ps).O (c.by ps).D (c.by ps).A (c.by ps).B (c.by ps).C (c.by ps).X ∧ ∀ g, u.ownBlock = some g → w.heap.size ≤ g) ∧ Below w.heap.size w w' := by
  obtain ⟨i3, hi3, hz30, hz31, hz32⟩ := info_parts info3
  have h44 := mrow b off cap c w R hX hn
  have H45 : Hid (c.row = true → ∀ v, Below w.heap.size w v → Calls Tryd.prog 45 #[.slice (some ⟨b, off, none⟩) c.n cap] v fun e w' => ∃ q, e = .returned (.slice (some ⟨q, 0, none⟩) c.n c.n) ∧ Mq (q + 1) w' q c.n c.n c.nl ∧ v.heap.size ≤ q ∧ Below v.heap.size v w') := fun hr v k => mall b off cap c v (R.next k) hX hr
  have H51 : Hid (c.row = true → ∀ v, Below w.heap.size w v → Calls Tryd.prog 51 #[q, .int .i64 (c.n : Int)] v fun e w' => e = .returned (.bool (ordB ps c.n)) ∧ Below v.heap.size v w') := fun hr v k => morder ps q c.n v (Q.next k) (Rc.row_n hr).2
  have H52 : Hid (c.row = true → ordB ps c.n = true → ∀ v, Below w.heap.size w v → Calls Tryd.prog 52 #[.slice (some ⟨b, off, none⟩) c.n cap, q] v fun e w' => ∃ u, e = .returned u ∧ (RowIV w' u c.n (c.by ps).O (c.by ps).D (c.by ps).A (c.by ps).B (c.by ps).C (c.by ps).X ∧ ∀ g, u.ownBlock = some g → v.heap.size ≤ g) ∧ Below v.heap.size v w') := fun hr ho v k => mby b off cap c ps q v (R.next k) (Q.next k) (Rc.row_n hr).2 (ordB_at ho).1 (ordB_at ho).2
  have HRO : Hid (c.ro ps = ((c.row && ordB ps c.n) && c.kp ps)) := rfl
  have HRN : Hid (c.rn ps = if c.ro ps then c.n else 0) := rfl
  have HOK : Hid (ordB ps c.n = true → ps.length = c.n ∧ ∀ k, k < c.n → 0 ≤ ps.getD k 0 ∧ ps.getD k 0 < (c.n : Int)) := fun h => ordB_at h
  have HN64 : Hid (c.row = true → c.n ≤ 64) := fun h => (Rc.row_n h).2
  rw [HRN.out, HRO.out]
  clear HRN HRO R hX hn
  have HQ := Hid.mk Q
  obtain ⟨oa, oc, rfl, hoa⟩ := Q
  generalize c.row = r at h44 H45 H51 H52 HN64 ⊢
  cases r
  case false =>
    simp only [Bool.false_and, Bool.false_eq_true, if_false]
    go_enter Tryd.func26, Tryd.ntmps26
    go_wp2_with (go_at_call 44; refine h44.mono ?_; rintro e w1 ⟨rfl, B1⟩)
    go_ret2
    exact ⟨_, rfl, ⟨Or.inl ⟨rfl, rfl⟩, fun g hg => by cases hg⟩, B1⟩
  have hn := HN64.out rfl
  have h45 := Hid.mk (H45.out rfl)
  have h51 := Hid.mk (H51.out rfl)
  have h52 := Hid.mk (H52.out rfl)
  clear H45 H51 H52 HN64
  generalize hor : ordB ps c.n = ob at h51 h52 HOK ⊢
  cases ob
  case false =>
    simp only [Bool.true_and, Bool.false_and, Bool.false_eq_true, if_false]
    go_enter Tryd.func26, Tryd.ntmps26
    go_wp2_with (first | (go_at_call 44; refine h44.mono ?_; rintro e w1 ⟨rfl, B1⟩) | (go_at_call 51; refine (h51.out _ B1).mono ?_; rintro e w2 ⟨rfl, B2⟩))
    go_ret2
    exact ⟨_, rfl, ⟨Or.inl ⟨rfl, rfl⟩, fun g hg => by cases hg⟩, B1.trans (B2.mono B1.size)⟩
  simp only [Bool.true_and]
  obtain ⟨hl, hp⟩ := HOK.out rfl
  have h53 := Hid.mk (h52.out rfl)
  clear h52
  have HP := Hid.mk hp
  have HKP : Hid (c.kp ps = allB (c.kj (atK ps c.n)) c.n) := rfl
  rw [hl] at hoa h51 h53 ⊢
  have HOA : Hid (∀ k, k < c.n → ∃ g o, oa = some ⟨g, o, none⟩ ∧ w.cell? ⟨g, o + k, none⟩ = some (.int .i64 (ps.getD k 0))) := hoa
  clear hoa hl hp hor HOK HQ
  obtain ⟨n, hn2⟩ : ∃ n, c.n = n := ⟨_, rfl⟩
  have HN : Hid (c.n = n) := hn2
  rw [hn2] at hn HOA HP HKP h44 h45 h51 h53 ⊢
  clear hn2
  obtain ⟨rn, hrn⟩ : ∃ rn, (if c.kp ps = true then n else 0) = rn := ⟨_, rfl⟩
  obtain ⟨kb, hkb⟩ : ∃ kb, c.kp ps = kb := ⟨_, rfl⟩
  have HT0 : Hid (c.kp ps = true → kb = true ∧ rn = n) := fun h => ⟨by rw [← hkb, h], by rw [← hrn, h]; rfl⟩
  have HF0 : Hid (c.kp ps = false → kb = false ∧ rn = 0) := fun h => ⟨by rw [← hkb, h], by rw [← hrn, h]; rfl⟩
  rw [hrn, hkb]
  clear hrn hkb
  go_enter Tryd.func26, Tryd.ntmps26
  go_wp2_with (first | (go_at_call 44; refine h44.mono ?_; rintro e w1 ⟨rfl, B1⟩) | (go_at_call 51; refine (h51.out _ B1).mono ?_; rintro e w2 ⟨rfl, B2⟩) | (at_make; refine wpList_make_full _ rfl _ _ 45 rfl w2.heap.size 3 i3 (.int .i64 0) 1 Tryd.underlying45 hi3 hz30 hz31 _ _ _ _ n rfl rfl (by first | rfl | omega) (by first | rfl | omega) (by rw [hz32]; omega) (by unfold maxLen; omega) (by simp) ?_; intro w3 hown3 hgrow3))
  have BB2 : Below w.heap.size w w2 := B1.trans (B2.mono B1.size)
  have O3 : Hid (Own w3 w2.heap.size n (fun i => .int .i64 (atK ps 0 i : Int))) := own_made hown3
  have B3 : Hid (Below w.heap.size w w3) := BB2.grown hgrow3 BB2.size (by simp)
  have HZ : Hid (w.heap.size ≤ w2.heap.size) := BB2.size
  clear hown3 hgrow3 BB2 B1 B2 h44 h51
  generalize w2.heap.size = z at O3 HZ ⊢
  go_loopw [28] (fun i wr => ∃ k : Nat, k ≤ n ∧ i = .int .i64 k ∧ Hid (Own wr z n (fun i => .int .i64 (atK ps k i : Int))) ∧ Hid (Below w.heap.size w wr)) (fun i _ => n - (intOf i).toNat)
  case atStart => exact ⟨0, Nat.zero_le _, rfl, O3, B3⟩
  case round =>
    obtain ⟨k, hk, rfl, HS, HB⟩ := hrel
    clear O3 B3
    by_cases hkn : k < n
    · have j1 : (k : Int) < (n : Int) := by omega
      have j0 : (0 : Int) ≤ (k : Int) := by omega
      obtain ⟨g, o, rfl, hc⟩ := HOA.out k hkn
      have co := cell_nx hc HB.out
      obtain ⟨p0, p1⟩ := HP.out k hkn
      have HA : Hid (atK ps (k + 1) = upN (atK ps k) (ps.getD k 0).toNat k) := rfl
      obtain ⟨m, hm⟩ : ∃ m : Nat, ps.getD k 0 = (m : Int) := ⟨(ps.getD k 0).toNat, by omega⟩
      rw [hm] at co p0 p1 HA
      rw [Int.toNat_natCast] at HA
      have cs := HS.out.cell m (by omega)
      have fs := HS.out.free m
      have ON : Only z wr (wr.setCell ⟨z, m, none⟩ (.int .i64 (k : Int))) := (Only.refl _ _).setCell _ _
      have S1 : Hid (Own (wr.setCell ⟨z, m, none⟩ (.int .i64 (k : Int))) z n (fun i => .int .i64 (atK ps (k + 1) i : Int))) := HS.out.set m _ (by omega) (fun i hi => by
        rw [HA.out]
        unfold upN
        by_cases e : i = m
        · rw [if_pos e, if_pos e]
        · rw [if_neg e, if_neg e])
      have B1 : Hid (Below w.heap.size w (wr.setCell ⟨z, m, none⟩ (.int .i64 (k : Int)))) := HB.out.trans (ON.below (by have := HZ.out; omega) HB.out.size)
      clear HS HB ON HA hc hm
      go_wp2
      go_roundw
      case rel => exact ⟨k + 1, by omega, by go_num, S1, B1⟩
      case measure => simp [intOf]; omega
    · obtain rfl : n = k := by omega
      have j1 : ¬ (n : Int) < (n : Int) := by omega
      have HPL : Hid (∀ i, atK ps n i ≤ n) := fun i => atK_le ps n i
      generalize atK ps n = P at HS HKP HPL
      go_wp2_with (go_at_call 45; refine (h45.out _ HB.out).mono ?_; rintro e w4 ⟨q4, rfl, M4, L4, B4⟩)
      have HO4 : Hid (Own w4 z n (fun i => .int .i64 (P i : Int))) := HS.out.next B4
      have BB4 : Hid (Below w.heap.size w w4) := HB.out.trans (B4.mono HB.out.size)
      have HM : Hid (∀ j, j < n → ∃ u, w4.cell? ⟨q4, j, none⟩ = some u ∧ ARow w4 u (c.nl j)) := fun j hj => by
        obtain ⟨ad, cc, h1, h2⟩ := M4.arows (cp := n)
        obtain ⟨q, o, u, h3, h4, h5⟩ := h2 j hj
        injection h1 with h1 _ _
        rw [← h1] at h3
        injection h3 with h3
        injection h3 with h6 h7
        rw [← h6, ← h7, Nat.zero_add] at h4
        exact ⟨u, h4, h5⟩
      clear HS HB M4 L4 B4 h45
      go_loopw [41] (fun i wr => ∃ j : Nat, j ≤ n ∧ i = .int .i64 j ∧ Hid (∀ x, x < j → c.kj P x = true) ∧ Hid (Below w4.heap.size w4 wr)) (fun i _ => n - (intOf i).toNat)
      case atStart => exact ⟨0, Nat.zero_le _, rfl, fun x hx => by omega, Below.refl _ _⟩
      case round =>
        obtain ⟨j, hj, rfl, HK, HB⟩ := hrel
        by_cases hjn : j < n
        · have j2 : (j : Int) < (n : Int) := by omega
          have j0 : (0 : Int) ≤ (j : Int) := by omega
          obtain ⟨u, hu, ad, cc, rfl, hrow⟩ := HM.out j hjn
          have cu := cell_nx hu HB.out
          have HKJ : Hid (c.kj P j = allB (fun q => decide (P ((c.nl j).getD q 0).toNat ≤ P j)) (c.nl j).length) := rfl
          have HNL : Hid (∀ q, q < (c.nl j).length → ∃ g o i, ad = some ⟨g, o, none⟩ ∧ w4.cell? ⟨g, o + q, none⟩ = some (.int .i64 ((i : Nat) : Int)) ∧ i < j ∧ (c.nl j).getD q 0 = ((i : Nat) : Int)) := fun q hq => by
            obtain ⟨g, o, h1, h2⟩ := hrow q hq
            obtain ⟨i, h3, h4, _⟩ := whL_getD (fun i => c.nd i j) j q hq
            have h3 : (c.nl j).getD q 0 = (i : Int) := h3
            rw [h3] at h2
            exact ⟨g, o, i, h1, h2, h4, h3⟩
          have hll := c.nl_len j
          generalize (c.nl j).length = ln at *
          clear hu hrow
          obtain ⟨W0, hW0⟩ : ∃ W0, wr = W0 := ⟨_, rfl⟩
          rw [hW0] at HB cu ⊢
          clear hW0
          go_wp2
          clear cu
          go_loopw [48] (fun i wx => ∃ q : Nat, q ≤ ln ∧ i = .int .i64 q ∧ Hid (∀ x, x < q → decide (P ((c.nl j).getD x 0).toNat ≤ P j) = true) ∧ Hid (Below W0.heap.size W0 wx)) (fun i _ => ln - (intOf i).toNat)
          case atStart => exact ⟨0, Nat.zero_le _, rfl, fun x hx => by omega, Below.refl _ _⟩
          case round =>
            obtain ⟨q, hq, rfl, HL, HX⟩ := hrel
            by_cases hqn : q < ln
            · have q1 : (q : Int) < (ln : Int) := by omega
              have q0 : (0 : Int) ≤ (q : Int) := by omega
              obtain ⟨g2, o2, i, rfl, h4, him, hgd⟩ := HNL.out q hqn
              have hBV := HB.out.trans (HX.out.mono HB.out.size)
              have e0 := cell_nx h4 hBV
              have i0 : (0 : Int) ≤ (i : Int) := by omega
              have i1 : (i : Int) < (n : Int) := by omega
              have hOw := HO4.out.next (below_drew hBV)
              have HC1 := hOw.cell i (by omega)
              have HC2 := hOw.cell j (by omega)
              have HXX : Hid (Below W0.heap.size W0 wr.drew) := below_drew HX.out
              have hg : decide (P ((c.nl j).getD q 0).toNat ≤ P j) = decide (P i ≤ P j) := by rw [hgd, Int.toNat_natCast]
              have HBW : Hid (Below w.heap.size w wr.drew) := BB4.out.trans ((below_drew hBV).mono BB4.out.size)
              clear h4 hBV hOw HX
              go_wp2
              generalize hWW : wr.drew = WX at HXX HC1 HC2 HBW
              have hH0 : Below WX.heap.size WX WX := Below.refl _ _
              refine wp_region_held_drew (S := fun v => Below WX.heap.size WX v) (by kernel_rfl) (by rw [hWW]; exact hH0) (fun hH => ?_)
              rw [hWW] at hH ⊢
              clear hWW hH0 e0
              by_cases hgt : P i ≤ P j
              · have g1 : ¬ (P j : Int) < (P i : Int) := by omega
                have HLN : Hid (∀ x, x < q + 1 → decide (P ((c.nl j).getD x 0).toNat ≤ P j) = true) := fun x hx => by
                  by_cases e : x = q
                  · subst e; rw [hg]; exact decide_eq_true hgt
                  · exact HL.out x (by omega)
                clear HL hgd hg
                refine wpAnyH_take (i := 0) (oi := { dst := some 52, op := Op.move (Operand.tmp 6), type := 45, pos := "l14_schedule.go:193", after := #[], guard := none }) (v := .slice (some ⟨z, 0, none⟩) n n) rfl (by kernel_rfl) (by kernel_rfl) (by kernel_rfl) (fun _ _ _ h => h) (Or.inl ⟨by rfl, fun w0 hSw => by (go_simp)⟩) hH ?_
                simp only [Act.put, List.setIfInBounds_toArray, List.set_cons_zero, List.set_cons_succ]
                refine wpAnyH_take (i := 1) (oi := { dst := some 53, op := Op.move (Operand.tmp 12), type := 3, pos := "l14_schedule.go:193", after := #[], guard := none }) (v := .int .i64 (i : Int)) rfl (by kernel_rfl) (by kernel_rfl) (by kernel_rfl) (fun _ _ _ h => h) (Or.inl ⟨by rfl, fun w0 hSw => by (go_simp)⟩) hH ?_
                simp only [Act.put, List.setIfInBounds_toArray, List.set_cons_zero, List.set_cons_succ]
                refine wpAnyH_take (i := 2) (oi := { dst := some 54, op := Op.indexAddr 45 (Operand.tmp 52) (Operand.tmp 53), type := 0, pos := "l14_schedule.go:193", after := #[{ on := 0, ground := Ground.data }, { on := 1, ground := Ground.data }], guard := none }) (v := .pointer (some ⟨z, i, none⟩)) rfl (by kernel_rfl) (by kernel_rfl) (by kernel_rfl) (fun _ _ _ h => h) (Or.inl ⟨by rfl, fun w0 hSw => by (go_simp)⟩) hH ?_
                simp only [Act.put, List.setIfInBounds_toArray, List.set_cons_zero, List.set_cons_succ]
                refine wpAnyH_take (i := 3) (oi := { dst := some 55, op := Op.load 3 (Operand.tmp 54), type := 3, pos := "l14_schedule.go:193", after := #[{ on := 2, ground := Ground.data }], guard := none }) (v := .int .i64 (P i : Int)) rfl (by kernel_rfl) (by kernel_rfl) (by kernel_rfl) (fun _ _ _ h => h) (Or.inl ⟨by rfl, fun w0 hSw => by ((have cs := cell_nx HC1 hSw); go_simp)⟩) hH ?_
                simp only [Act.put, List.setIfInBounds_toArray, List.set_cons_zero, List.set_cons_succ]
                refine wpAnyH_take (i := 4) (oi := { dst := some 56, op := Op.move (Operand.tmp 6), type := 45, pos := "l14_schedule.go:193", after := #[], guard := none }) (v := .slice (some ⟨z, 0, none⟩) n n) rfl (by kernel_rfl) (by kernel_rfl) (by kernel_rfl) (fun _ _ _ h => h) (Or.inl ⟨by rfl, fun w0 hSw => by (go_simp)⟩) hH ?_
                simp only [Act.put, List.setIfInBounds_toArray, List.set_cons_zero, List.set_cons_succ]
                refine wpAnyH_take (i := 5) (oi := { dst := some 57, op := Op.move (Operand.tmp 9), type := 3, pos := "l14_schedule.go:193", after := #[], guard := none }) (v := .int .i64 (j : Int)) rfl (by kernel_rfl) (by kernel_rfl) (by kernel_rfl) (fun _ _ _ h => h) (Or.inl ⟨by rfl, fun w0 hSw => by (go_simp)⟩) hH ?_
                simp only [Act.put, List.setIfInBounds_toArray, List.set_cons_zero, List.set_cons_succ]
                refine wpAnyH_take (i := 6) (oi := { dst := some 58, op := Op.indexAddr 45 (Operand.tmp 56) (Operand.tmp 57), type := 0, pos := "l14_schedule.go:193", after := #[{ on := 4, ground := Ground.data }, { on := 5, ground := Ground.data }], guard := none }) (v := .pointer (some ⟨z, j, none⟩)) rfl (by kernel_rfl) (by kernel_rfl) (by kernel_rfl) (fun _ _ _ h => h) (Or.inl ⟨by rfl, fun w0 hSw => by (go_simp)⟩) hH ?_
                simp only [Act.put, List.setIfInBounds_toArray, List.set_cons_zero, List.set_cons_succ]
                refine wpAnyH_take (i := 7) (oi := { dst := some 59, op := Op.load 3 (Operand.tmp 58), type := 3, pos := "l14_schedule.go:193", after := #[{ on := 6, ground := Ground.data }], guard := none }) (v := .int .i64 (P j : Int)) rfl (by kernel_rfl) (by kernel_rfl) (by kernel_rfl) (fun _ _ _ h => h) (Or.inl ⟨by rfl, fun w0 hSw => by ((have cs := cell_nx HC2 hSw); go_simp)⟩) hH ?_
                simp only [Act.put, List.setIfInBounds_toArray, List.set_cons_zero, List.set_cons_succ]
                refine wpAnyH_take (i := 8) (oi := { dst := some 60, op := Op.binOp BinOp.gtr 3 (Operand.tmp 55) (Operand.tmp 59) 3, type := 4, pos := "l14_schedule.go:193", after := #[{ on := 3, ground := Ground.data }, { on := 7, ground := Ground.data }], guard := none }) (v := .bool false) rfl (by kernel_rfl) (by kernel_rfl) (by kernel_rfl) (fun _ _ _ h => h) (Or.inl ⟨by rfl, fun w0 hSw => by (go_simp)⟩) hH ?_
                simp only [Act.put, List.setIfInBounds_toArray, List.set_cons_zero, List.set_cons_succ]
                refine wpAnyH_done (by kernel_rfl) ?_ _
                go_wp2
                go_roundw
                case rel => exact ⟨q + 1, by omega, by go_num, HLN, HXX⟩
                case measure => simp [intOf]; omega
              · have g1 : (P j : Int) < (P i : Int) := by omega
                have HF : Hid (kb = false ∧ rn = 0) := HF0.out <| by
                  rw [HKP.out]
                  exact allB_stop _ j (by rw [HKJ.out]; exact allB_stop _ q (by rw [hg]; exact decide_eq_false hgt) ln hqn) n hjn
                clear HL hgd hg
                refine wpAnyH_take (i := 0) (oi := { dst := some 52, op := Op.move (Operand.tmp 6), type := 45, pos := "l14_schedule.go:193", after := #[], guard := none }) (v := .slice (some ⟨z, 0, none⟩) n n) rfl (by kernel_rfl) (by kernel_rfl) (by kernel_rfl) (fun _ _ _ h => h) (Or.inl ⟨by rfl, fun w0 hSw => by (go_simp)⟩) hH ?_
                simp only [Act.put, List.setIfInBounds_toArray, List.set_cons_zero, List.set_cons_succ]
                refine wpAnyH_take (i := 1) (oi := { dst := some 53, op := Op.move (Operand.tmp 12), type := 3, pos := "l14_schedule.go:193", after := #[], guard := none }) (v := .int .i64 (i : Int)) rfl (by kernel_rfl) (by kernel_rfl) (by kernel_rfl) (fun _ _ _ h => h) (Or.inl ⟨by rfl, fun w0 hSw => by (go_simp)⟩) hH ?_
                simp only [Act.put, List.setIfInBounds_toArray, List.set_cons_zero, List.set_cons_succ]
                refine wpAnyH_take (i := 2) (oi := { dst := some 54, op := Op.indexAddr 45 (Operand.tmp 52) (Operand.tmp 53), type := 0, pos := "l14_schedule.go:193", after := #[{ on := 0, ground := Ground.data }, { on := 1, ground := Ground.data }], guard := none }) (v := .pointer (some ⟨z, i, none⟩)) rfl (by kernel_rfl) (by kernel_rfl) (by kernel_rfl) (fun _ _ _ h => h) (Or.inl ⟨by rfl, fun w0 hSw => by (go_simp)⟩) hH ?_
                simp only [Act.put, List.setIfInBounds_toArray, List.set_cons_zero, List.set_cons_succ]
                refine wpAnyH_take (i := 3) (oi := { dst := some 55, op := Op.load 3 (Operand.tmp 54), type := 3, pos := "l14_schedule.go:193", after := #[{ on := 2, ground := Ground.data }], guard := none }) (v := .int .i64 (P i : Int)) rfl (by kernel_rfl) (by kernel_rfl) (by kernel_rfl) (fun _ _ _ h => h) (Or.inl ⟨by rfl, fun w0 hSw => by ((have cs := cell_nx HC1 hSw); go_simp)⟩) hH ?_
                simp only [Act.put, List.setIfInBounds_toArray, List.set_cons_zero, List.set_cons_succ]
                refine wpAnyH_take (i := 4) (oi := { dst := some 56, op := Op.move (Operand.tmp 6), type := 45, pos := "l14_schedule.go:193", after := #[], guard := none }) (v := .slice (some ⟨z, 0, none⟩) n n) rfl (by kernel_rfl) (by kernel_rfl) (by kernel_rfl) (fun _ _ _ h => h) (Or.inl ⟨by rfl, fun w0 hSw => by (go_simp)⟩) hH ?_
                simp only [Act.put, List.setIfInBounds_toArray, List.set_cons_zero, List.set_cons_succ]
                refine wpAnyH_take (i := 5) (oi := { dst := some 57, op := Op.move (Operand.tmp 9), type := 3, pos := "l14_schedule.go:193", after := #[], guard := none }) (v := .int .i64 (j : Int)) rfl (by kernel_rfl) (by kernel_rfl) (by kernel_rfl) (fun _ _ _ h => h) (Or.inl ⟨by rfl, fun w0 hSw => by (go_simp)⟩) hH ?_
                simp only [Act.put, List.setIfInBounds_toArray, List.set_cons_zero, List.set_cons_succ]
                refine wpAnyH_take (i := 6) (oi := { dst := some 58, op := Op.indexAddr 45 (Operand.tmp 56) (Operand.tmp 57), type := 0, pos := "l14_schedule.go:193", after := #[{ on := 4, ground := Ground.data }, { on := 5, ground := Ground.data }], guard := none }) (v := .pointer (some ⟨z, j, none⟩)) rfl (by kernel_rfl) (by kernel_rfl) (by kernel_rfl) (fun _ _ _ h => h) (Or.inl ⟨by rfl, fun w0 hSw => by (go_simp)⟩) hH ?_
                simp only [Act.put, List.setIfInBounds_toArray, List.set_cons_zero, List.set_cons_succ]
                refine wpAnyH_take (i := 7) (oi := { dst := some 59, op := Op.load 3 (Operand.tmp 58), type := 3, pos := "l14_schedule.go:193", after := #[{ on := 6, ground := Ground.data }], guard := none }) (v := .int .i64 (P j : Int)) rfl (by kernel_rfl) (by kernel_rfl) (by kernel_rfl) (fun _ _ _ h => h) (Or.inl ⟨by rfl, fun w0 hSw => by ((have cs := cell_nx HC2 hSw); go_simp)⟩) hH ?_
                simp only [Act.put, List.setIfInBounds_toArray, List.set_cons_zero, List.set_cons_succ]
                refine wpAnyH_take (i := 8) (oi := { dst := some 60, op := Op.binOp BinOp.gtr 3 (Operand.tmp 55) (Operand.tmp 59) 3, type := 4, pos := "l14_schedule.go:193", after := #[{ on := 3, ground := Ground.data }, { on := 7, ground := Ground.data }], guard := none }) (v := .bool true) rfl (by kernel_rfl) (by kernel_rfl) (by kernel_rfl) (fun _ _ _ h => h) (Or.inl ⟨by rfl, fun w0 hSw => by (go_simp)⟩) hH ?_
                simp only [Act.put, List.setIfInBounds_toArray, List.set_cons_zero, List.set_cons_succ]
                refine wpAnyH_done (by kernel_rfl) ?_ _
                go_wp2
                go_ret2
                exact ⟨_, by rw [HF.out.1]; rfl, ⟨by rw [HF.out.2]; exact Or.inl ⟨rfl, rfl⟩, fun g hg => by cases hg⟩, HBW.out⟩
            · obtain rfl : q = ln := by omega
              have q1 : ¬ (q : Int) < (q : Int) := by omega
              have HKN : Hid (∀ x, x < j + 1 → c.kj P x = true) := fun x hx => by
                by_cases e : x = j
                · subst e; rw [HKJ.out]; exact allB_all _ q HL.out
                · exact HK.out x (by omega)
              have BN : Hid (Below w4.heap.size w4 wr) := HB.out.trans (HX.out.mono HB.out.size)
              clear HK HB HX HL
              go_wp2
              go_roundw
              case rel => exact ⟨j + 1, by omega, by go_num, HKN, BN⟩
              case measure => simp [intOf]; omega
        · obtain rfl : n = j := by omega
          have j2 : ¬ (n : Int) < (n : Int) := by omega
          have HT : Hid (kb = true ∧ rn = n) := HT0.out <| by
            rw [HKP.out]
            exact allB_all _ n HK.out
          have BBR : Hid (Below w.heap.size w wr) := BB4.out.trans (HB.out.mono BB4.out.size)
          go_wp2_with (go_at_call 52; refine (h53.out _ BBR.out).mono ?_; rintro e w6 ⟨u6, rfl, ⟨U6, U7⟩, B6⟩)
          go_ret2
          refine ⟨_, by rw [HT.out.1]; rfl, ⟨by rw [HT.out.2]; exact U6, fun g hg => Nat.le_trans BBR.out.size (U7 g hg)⟩, BBR.out.trans (B6.mono BBR.out.size)⟩
end Go.Proofs.YtcgapochcahknaaDoor
namespace Go.Proofs.YtcgapochcahknaaDoor
open Go.ChangeShapes Go.WideShapes Go.ChangeAt Go.RowKit
set_option linter.unusedVariables false
/-- z tells where something stands, and b whether it does. -/
def IxP (z : Int) (b : Bool) : Prop := decide (0 ≤ z) = b
set_option maxRecDepth 100000 in
set_option maxHeartbeats 2000000 in
theorem index112 (ps : List Int) (q : Value) (x : Int) (w : World) (Q : ARow w q ps) (hn : ps.length ≤ 1048576) : Calls Tryd.prog 112 #[q, .int .i64 x] w fun e w' => (∃ z, e = .returned (.int .i64 z) ∧ IxP z (seenB ps ps.length x)) ∧ Below w.heap.size w w' := by
  obtain ⟨oa, oc, rfl, hoa⟩ := Q
  have HOA := Hid.mk hoa
  have HS : Hid (∀ k, k < ps.length → ps.getD k 0 = x → seenB ps ps.length x = true) := fun k hk e => (seenB_iff ps x _).2 ⟨k, hk, e⟩
  have HS2 : Hid ((∀ k, k < ps.length → ps.getD k 0 ≠ x) → seenB ps ps.length x = false) := fun h => by
    rw [← Bool.not_eq_true, seenB_iff]
    rintro ⟨j, h1, h2⟩
    exact h j h1 h2
  generalize seenB ps ps.length x = sb at HS HS2 ⊢
  generalize ps.length = n at *
  clear hoa
  go_enter Tryd.func112, Tryd.ntmps112
  go_wp2
  go_loopw [8] (fun i wx => ∃ k : Nat, k ≤ n ∧ i = .int .i64 k ∧ Hid (∀ j, j < k → ps.getD j 0 ≠ x) ∧ Hid (Below w.heap.size w wx)) (fun i _ => n - (intOf i).toNat)
  case atStart => exact ⟨0, Nat.zero_le _, rfl, fun j hj => by omega, Below.refl _ _⟩
  case round =>
    obtain ⟨k, hk, rfl, HK, HB⟩ := hrel
    by_cases hkn : k < n
    · have i1 : (k : Int) < (n : Int) := by omega
      have i0 : (0 : Int) ≤ (k : Int) := by omega
      obtain ⟨g, o, rfl, ck0⟩ := HOA.out k hkn
      have ck := cell_nx ck0 HB.out
      have HSk : Hid (ps.getD k 0 = x → sb = true) := HS.out k hkn
      have HKe : Hid (ps.getD k 0 ≠ x → ∀ j, j < k + 1 → ps.getD j 0 ≠ x) := fun h j hj => by
        by_cases q : j = k
        · subst q; exact h
        · exact HK.out j (by omega)
      clear ck0 HK
      generalize ps.getD k 0 = y at ck HSk HKe
      by_cases e : x = y
      · have HM : Hid (IxP (k : Int) sb) := by
          show decide (0 ≤ (k : Int)) = _
          rw [decide_eq_true i0, HSk.out e.symm]
        go_wp2
        go_ret
        exact ⟨⟨_, rfl, HM.out⟩, HB.out⟩
      · have HKN : Hid (∀ j, j < k + 1 → ps.getD j 0 ≠ x) := HKe.out (fun q => e q.symm)
        go_wp2
        go_roundw
        case rel => exact ⟨k + 1, by omega, by go_num, HKN, HB⟩
        case measure => simp [intOf]; omega
    · obtain rfl : n = k := by omega
      have i1 : ¬ (n : Int) < (n : Int) := by omega
      have HM : Hid (IxP (-1 : Int) sb) := by
        show decide (0 ≤ (-1 : Int)) = _
        rw [HS2.out HK.out]
        rfl
      go_wp2
      go_ret
      exact ⟨⟨_, rfl, HM.out⟩, HB.out⟩
set_option maxRecDepth 100000 in
theorem contains85 (ps : List Int) (q : Value) (x : Int) (w : World) (Q : ARow w q ps) (hn : ps.length ≤ 1048576) : Calls Tryd.prog 85 #[q, .int .i64 x] w fun e w' => e = .returned (.bool (seenB ps ps.length x)) ∧ Below w.heap.size w w' := by
  have h := index112 ps q x w Q hn
  obtain ⟨oa, oc, rfl, hoa⟩ := Q
  generalize seenB ps ps.length x = sb at h ⊢
  generalize ps.length = n at *
  clear hoa
  go_enter Tryd.func85, Tryd.ntmps85
  go_wp2_with (go_at_call 112; refine h.mono ?_; rintro e w1 ⟨⟨z, rfl, hz0⟩, B1⟩; (have hz : decide (0 ≤ z) = sb := hz0))
  go_ret
  exact ⟨by rw [← hz]; rfl, B1⟩
set_option maxRecDepth 100000 in
set_option maxHeartbeats 2000000 in
theorem isorder (ps : List Int) (q : Value) (n : Nat) (w : World) (Q : ARow w q ps) (hn : n ≤ 64) : Calls Tryd.prog 53 #[q, .int .i64 (n : Int)] w fun e w' => e = .returned (.bool (ordB ps n)) ∧ Below w.heap.size w w' := by
  rw [← has_ord]
  have HO : Hid (hasB ps n = (decide (ps.length = n) && allB (fun i => seenB ps n (i : Int)) n)) := rfl
  rw [HO.out]
  clear HO
  have H85 : Hid (ps.length = n → ∀ x v, Below w.heap.size w v → Calls Tryd.prog 85 #[q, .int .i64 x] v fun e w' => e = .returned (.bool (seenB ps n x)) ∧ Below v.heap.size v w') := fun h x v k => by have := contains85 ps q x v (Q.next k) (by omega); rw [h] at this; exact this
  obtain ⟨oa, oc, rfl, hoa⟩ := Q
  clear hoa
  by_cases hl : ps.length = n
  case neg =>
    have l1 : ¬ (ps.length : Int) = (n : Int) := by omega
    rw [decide_eq_false hl]
    go_enter Tryd.func53, Tryd.ntmps53
    go_wp2
    go_ret
    exact ⟨rfl, Below.refl _ _⟩
  have h85 := Hid.mk (H85.out hl)
  rw [decide_eq_true hl, hl, Bool.true_and]
  rw [hl] at h85
  clear H85 hl
  go_enter Tryd.func53, Tryd.ntmps53
  go_wp2
  go_loopw [11] (fun i wr => ∃ k : Nat, k ≤ n ∧ i = .int .i64 k ∧ Hid (∀ j : Nat, j < k → seenB ps n (j : Int) = true) ∧ Hid (Below w.heap.size w wr)) (fun i _ => n - (intOf i).toNat)
  case atStart => exact ⟨0, Nat.zero_le _, rfl, fun j hj => by omega, Below.refl _ _⟩
  case round =>
    obtain ⟨k, hk, rfl, HK, HB⟩ := hrel
    by_cases hkn : k < n
    · have j1 : (k : Int) < (n : Int) := by omega
      have j0 : (0 : Int) ≤ (k : Int) := by omega
      have hg := h85.out (k : Int) wr HB.out
      have ST : Hid (seenB ps n (k : Int) = false → allB (fun i => seenB ps n (i : Int)) n = false) := fun h => allB_stop _ k h n hkn
      have HKe : Hid (seenB ps n (k : Int) = true → ∀ j : Nat, j < k + 1 → seenB ps n (j : Int) = true) := fun h j hj => by
        by_cases q : j = k
        · subst q; exact h
        · exact HK.out j (by omega)
      generalize seenB ps n (k : Int) = sb at hg ST HKe
      cases sb
      · have HF := Hid.mk (ST.out rfl)
        go_wp2_with (go_at_call 85; refine hg.mono ?_; rintro e w1 ⟨rfl, B1⟩)
        go_ret
        exact ⟨by rw [HF.out]; rfl, HB.out.trans (B1.mono HB.out.size)⟩
      · have HKN := Hid.mk (HKe.out rfl)
        go_wp2_with (go_at_call 85; refine hg.mono ?_; rintro e w1 ⟨rfl, B1⟩)
        have BN : Hid (Below w.heap.size w w1) := HB.out.trans (B1.mono HB.out.size)
        go_roundw
        case rel => exact ⟨k + 1, by omega, by go_num, HKN, BN⟩
        case measure => simp [intOf]; omega
    · obtain rfl : n = k := by omega
      have j1 : ¬ (n : Int) < (n : Int) := by omega
      have HF := Hid.mk (allB_all _ n HK.out)
      go_wp2
      go_ret
      exact ⟨by rw [HF.out]; rfl, HB.out⟩
/-- What keptBy's closure reads. -/
structure Kb (w : World) (a jb s n j : Nat) (P : Nat → Nat) : Prop where
  ha : w.cell? ⟨a, 0, none⟩ = some (.slice (some ⟨s, 0, none⟩) n n)
  hj : w.cell? ⟨jb, 0, none⟩ = some (.int .i64 (j : Int))
  hs : ∀ i, i < n → w.cell? ⟨s, i, none⟩ = some (.int .i64 (P i : Int))
theorem Kb.next {w w' : World} {a jb s n j : Nat} {P : Nat → Nat} (h : Kb w a jb s n j P) (b : Below w.heap.size w w') : Kb w' a jb s n j P :=
  ⟨cell_nx h.ha b, cell_nx h.hj b, fun i hi => cell_nx (h.hs i hi) b⟩
set_option maxRecDepth 100000 in
set_option maxHeartbeats 2000000 in
theorem clos87 (a jb s n j i : Nat) (wa : Int) (P : Nat → Nat) (w : World) (K : Kb w a jb s n j P) (hi : i < n) (hj : j < n) : Calls Tryd.prog 87 #[.agg #[.int .i64 (i : Int), .int .i64 wa], .pointer (some ⟨a, 0, none⟩), .pointer (some ⟨jb, 0, none⟩)] w fun e w' => e = .returned (.bool (decide (P j < P i))) ∧ Below w.heap.size w w' := by
  have i0 : (0 : Int) ≤ (i : Int) := by omega
  have i1 : (i : Int) < (n : Int) := by omega
  have j0 : (0 : Int) ≤ (j : Int) := by omega
  have j1 : (j : Int) < (n : Int) := by omega
  have HBW : Hid (Below w.heap.size w (w.alloc (.cells #[.int .i64 (i : Int), .int .i64 wa] 70)).drew) := below_drew alloc_b
  have HA := cell_nx K.ha HBW.out
  have HJ := cell_nx K.hj HBW.out
  have HC1 := cell_nx (K.hs i hi) HBW.out
  have HC2 := cell_nx (K.hs j hj) HBW.out
  have HY : (w.alloc (.cells #[.int .i64 (i : Int), .int .i64 wa] 70)).drew.cell? ⟨w.heap.size, 0, none⟩ = some (.int .i64 (i : Int)) := by simp
  clear K
  by_cases hgt : P j < P i
  · have HD : Hid (decide (P j < P i) = true) := decide_eq_true hgt
    have g1 : (P j : Int) < (P i : Int) := by omega
    go_enter Tryd.func87, Tryd.ntmps87
    go_wp2
    generalize hWW : (w.alloc (.cells #[.int .i64 (i : Int), .int .i64 wa] 70)).drew = WX at HBW HA HJ HC1 HC2 HY
    have hH0 : Below WX.heap.size WX WX := Below.refl _ _
    refine wp_region_held_drew (S := fun v => Below WX.heap.size WX v) (by kernel_rfl) (by rw [hWW]; exact hH0) (fun hH => ?_)
    rw [hWW] at hH ⊢
    clear hWW hH0
    generalize w.heap.size = nk at HY ⊢
    refine wpAnyH_take (i := 0) (oi := { dst := some 5, op := Op.load 45 (Operand.tmp 1), type := 45, pos := "l14_schedule.go:219", after := #[], guard := none }) (v := .slice (some ⟨s, 0, none⟩) n n) rfl (by kernel_rfl) (by kernel_rfl) (by kernel_rfl) (fun _ _ _ h => h) (Or.inl ⟨by rfl, fun w0 hSw => by ((have cs := cell_nx HA hSw); go_simp)⟩) hH ?_
    simp only [Act.put, List.setIfInBounds_toArray, List.set_cons_zero, List.set_cons_succ]
    refine wpAnyH_take (i := 1) (oi := { dst := some 6, op := Op.fieldAddr 70 (Operand.tmp 3) 0, type := 0, pos := "l14_schedule.go:219", after := #[], guard := none }) (v := .pointer (some ⟨nk, 0, none⟩)) rfl (by kernel_rfl) (by kernel_rfl) (by kernel_rfl) (fun _ _ _ h => h) (Or.inl ⟨by rfl, fun w0 hSw => by (go_simp)⟩) hH ?_
    simp only [Act.put, List.setIfInBounds_toArray, List.set_cons_zero, List.set_cons_succ]
    refine wpAnyH_take (i := 2) (oi := { dst := some 7, op := Op.load 3 (Operand.tmp 6), type := 3, pos := "l14_schedule.go:219", after := #[{ on := 1, ground := Ground.data }], guard := none }) (v := .int .i64 (i : Int)) rfl (by kernel_rfl) (by kernel_rfl) (by kernel_rfl) (fun _ _ _ h => h) (Or.inl ⟨by rfl, fun w0 hSw => by ((have cs := cell_nx HY hSw); go_simp)⟩) hH ?_
    simp only [Act.put, List.setIfInBounds_toArray, List.set_cons_zero, List.set_cons_succ]
    refine wpAnyH_take (i := 3) (oi := { dst := some 8, op := Op.indexAddr 45 (Operand.tmp 5) (Operand.tmp 7), type := 0, pos := "l14_schedule.go:219", after := #[{ on := 0, ground := Ground.data }, { on := 2, ground := Ground.data }], guard := none }) (v := .pointer (some ⟨s, i, none⟩)) rfl (by kernel_rfl) (by kernel_rfl) (by kernel_rfl) (fun _ _ _ h => h) (Or.inl ⟨by rfl, fun w0 hSw => by (go_simp)⟩) hH ?_
    simp only [Act.put, List.setIfInBounds_toArray, List.set_cons_zero, List.set_cons_succ]
    refine wpAnyH_take (i := 4) (oi := { dst := some 9, op := Op.load 3 (Operand.tmp 8), type := 3, pos := "l14_schedule.go:219", after := #[{ on := 3, ground := Ground.data }], guard := none }) (v := .int .i64 (P i : Int)) rfl (by kernel_rfl) (by kernel_rfl) (by kernel_rfl) (fun _ _ _ h => h) (Or.inl ⟨by rfl, fun w0 hSw => by ((have cs := cell_nx HC1 hSw); go_simp)⟩) hH ?_
    simp only [Act.put, List.setIfInBounds_toArray, List.set_cons_zero, List.set_cons_succ]
    refine wpAnyH_take (i := 5) (oi := { dst := some 10, op := Op.load 45 (Operand.tmp 1), type := 45, pos := "l14_schedule.go:219", after := #[], guard := none }) (v := .slice (some ⟨s, 0, none⟩) n n) rfl (by kernel_rfl) (by kernel_rfl) (by kernel_rfl) (fun _ _ _ h => h) (Or.inl ⟨by rfl, fun w0 hSw => by ((have cs := cell_nx HA hSw); go_simp)⟩) hH ?_
    simp only [Act.put, List.setIfInBounds_toArray, List.set_cons_zero, List.set_cons_succ]
    refine wpAnyH_take (i := 6) (oi := { dst := some 11, op := Op.load 3 (Operand.tmp 2), type := 3, pos := "l14_schedule.go:219", after := #[], guard := none }) (v := .int .i64 (j : Int)) rfl (by kernel_rfl) (by kernel_rfl) (by kernel_rfl) (fun _ _ _ h => h) (Or.inl ⟨by rfl, fun w0 hSw => by ((have cs := cell_nx HJ hSw); go_simp)⟩) hH ?_
    simp only [Act.put, List.setIfInBounds_toArray, List.set_cons_zero, List.set_cons_succ]
    refine wpAnyH_take (i := 7) (oi := { dst := some 12, op := Op.indexAddr 45 (Operand.tmp 10) (Operand.tmp 11), type := 0, pos := "l14_schedule.go:219", after := #[{ on := 5, ground := Ground.data }, { on := 6, ground := Ground.data }], guard := none }) (v := .pointer (some ⟨s, j, none⟩)) rfl (by kernel_rfl) (by kernel_rfl) (by kernel_rfl) (fun _ _ _ h => h) (Or.inl ⟨by rfl, fun w0 hSw => by (go_simp)⟩) hH ?_
    simp only [Act.put, List.setIfInBounds_toArray, List.set_cons_zero, List.set_cons_succ]
    refine wpAnyH_take (i := 8) (oi := { dst := some 13, op := Op.load 3 (Operand.tmp 12), type := 3, pos := "l14_schedule.go:219", after := #[{ on := 7, ground := Ground.data }], guard := none }) (v := .int .i64 (P j : Int)) rfl (by kernel_rfl) (by kernel_rfl) (by kernel_rfl) (fun _ _ _ h => h) (Or.inl ⟨by rfl, fun w0 hSw => by ((have cs := cell_nx HC2 hSw); go_simp)⟩) hH ?_
    simp only [Act.put, List.setIfInBounds_toArray, List.set_cons_zero, List.set_cons_succ]
    refine wpAnyH_take (i := 9) (oi := { dst := some 14, op := Op.binOp BinOp.gtr 3 (Operand.tmp 9) (Operand.tmp 13) 3, type := 4, pos := "l14_schedule.go:219", after := #[{ on := 4, ground := Ground.data }, { on := 8, ground := Ground.data }], guard := none }) (v := .bool true) rfl (by kernel_rfl) (by kernel_rfl) (by kernel_rfl) (fun _ _ _ h => h) (Or.inl ⟨by rfl, fun w0 hSw => by (go_simp)⟩) hH ?_
    simp only [Act.put, List.setIfInBounds_toArray, List.set_cons_zero, List.set_cons_succ]
    refine wpAnyH_take (i := 10) (oi := { dst := some 4, op := Op.assign (Operand.tmp 14), type := 4, pos := "l14_schedule.go:219", after := #[{ on := 9, ground := Ground.data }, { on := 0, ground := Ground.phase }, { on := 1, ground := Ground.phase }, { on := 2, ground := Ground.phase }, { on := 3, ground := Ground.phase }, { on := 4, ground := Ground.phase }, { on := 5, ground := Ground.phase }, { on := 6, ground := Ground.phase }, { on := 7, ground := Ground.phase }, { on := 8, ground := Ground.phase }, { on := 9, ground := Ground.phase }], guard := none }) (v := .bool true) rfl (by kernel_rfl) (by kernel_rfl) (by kernel_rfl) (fun _ _ _ h => h) (Or.inl ⟨by rfl, fun w0 hSw => by (go_simp)⟩) hH ?_
    simp only [Act.put, List.setIfInBounds_toArray, List.set_cons_zero, List.set_cons_succ]
    refine wpAnyH_done (by kernel_rfl) ?_ _
    go_wp2
    go_ret
    exact ⟨by rw [HD.out]; rfl, HBW.out⟩
  · have HD : Hid (decide (P j < P i) = false) := decide_eq_false hgt
    have g1 : ¬ (P j : Int) < (P i : Int) := by omega
    go_enter Tryd.func87, Tryd.ntmps87
    go_wp2
    generalize hWW : (w.alloc (.cells #[.int .i64 (i : Int), .int .i64 wa] 70)).drew = WX at HBW HA HJ HC1 HC2 HY
    have hH0 : Below WX.heap.size WX WX := Below.refl _ _
    refine wp_region_held_drew (S := fun v => Below WX.heap.size WX v) (by kernel_rfl) (by rw [hWW]; exact hH0) (fun hH => ?_)
    rw [hWW] at hH ⊢
    clear hWW hH0
    generalize w.heap.size = nk at HY ⊢
    refine wpAnyH_take (i := 0) (oi := { dst := some 5, op := Op.load 45 (Operand.tmp 1), type := 45, pos := "l14_schedule.go:219", after := #[], guard := none }) (v := .slice (some ⟨s, 0, none⟩) n n) rfl (by kernel_rfl) (by kernel_rfl) (by kernel_rfl) (fun _ _ _ h => h) (Or.inl ⟨by rfl, fun w0 hSw => by ((have cs := cell_nx HA hSw); go_simp)⟩) hH ?_
    simp only [Act.put, List.setIfInBounds_toArray, List.set_cons_zero, List.set_cons_succ]
    refine wpAnyH_take (i := 1) (oi := { dst := some 6, op := Op.fieldAddr 70 (Operand.tmp 3) 0, type := 0, pos := "l14_schedule.go:219", after := #[], guard := none }) (v := .pointer (some ⟨nk, 0, none⟩)) rfl (by kernel_rfl) (by kernel_rfl) (by kernel_rfl) (fun _ _ _ h => h) (Or.inl ⟨by rfl, fun w0 hSw => by (go_simp)⟩) hH ?_
    simp only [Act.put, List.setIfInBounds_toArray, List.set_cons_zero, List.set_cons_succ]
    refine wpAnyH_take (i := 2) (oi := { dst := some 7, op := Op.load 3 (Operand.tmp 6), type := 3, pos := "l14_schedule.go:219", after := #[{ on := 1, ground := Ground.data }], guard := none }) (v := .int .i64 (i : Int)) rfl (by kernel_rfl) (by kernel_rfl) (by kernel_rfl) (fun _ _ _ h => h) (Or.inl ⟨by rfl, fun w0 hSw => by ((have cs := cell_nx HY hSw); go_simp)⟩) hH ?_
    simp only [Act.put, List.setIfInBounds_toArray, List.set_cons_zero, List.set_cons_succ]
    refine wpAnyH_take (i := 3) (oi := { dst := some 8, op := Op.indexAddr 45 (Operand.tmp 5) (Operand.tmp 7), type := 0, pos := "l14_schedule.go:219", after := #[{ on := 0, ground := Ground.data }, { on := 2, ground := Ground.data }], guard := none }) (v := .pointer (some ⟨s, i, none⟩)) rfl (by kernel_rfl) (by kernel_rfl) (by kernel_rfl) (fun _ _ _ h => h) (Or.inl ⟨by rfl, fun w0 hSw => by (go_simp)⟩) hH ?_
    simp only [Act.put, List.setIfInBounds_toArray, List.set_cons_zero, List.set_cons_succ]
    refine wpAnyH_take (i := 4) (oi := { dst := some 9, op := Op.load 3 (Operand.tmp 8), type := 3, pos := "l14_schedule.go:219", after := #[{ on := 3, ground := Ground.data }], guard := none }) (v := .int .i64 (P i : Int)) rfl (by kernel_rfl) (by kernel_rfl) (by kernel_rfl) (fun _ _ _ h => h) (Or.inl ⟨by rfl, fun w0 hSw => by ((have cs := cell_nx HC1 hSw); go_simp)⟩) hH ?_
    simp only [Act.put, List.setIfInBounds_toArray, List.set_cons_zero, List.set_cons_succ]
    refine wpAnyH_take (i := 5) (oi := { dst := some 10, op := Op.load 45 (Operand.tmp 1), type := 45, pos := "l14_schedule.go:219", after := #[], guard := none }) (v := .slice (some ⟨s, 0, none⟩) n n) rfl (by kernel_rfl) (by kernel_rfl) (by kernel_rfl) (fun _ _ _ h => h) (Or.inl ⟨by rfl, fun w0 hSw => by ((have cs := cell_nx HA hSw); go_simp)⟩) hH ?_
    simp only [Act.put, List.setIfInBounds_toArray, List.set_cons_zero, List.set_cons_succ]
    refine wpAnyH_take (i := 6) (oi := { dst := some 11, op := Op.load 3 (Operand.tmp 2), type := 3, pos := "l14_schedule.go:219", after := #[], guard := none }) (v := .int .i64 (j : Int)) rfl (by kernel_rfl) (by kernel_rfl) (by kernel_rfl) (fun _ _ _ h => h) (Or.inl ⟨by rfl, fun w0 hSw => by ((have cs := cell_nx HJ hSw); go_simp)⟩) hH ?_
    simp only [Act.put, List.setIfInBounds_toArray, List.set_cons_zero, List.set_cons_succ]
    refine wpAnyH_take (i := 7) (oi := { dst := some 12, op := Op.indexAddr 45 (Operand.tmp 10) (Operand.tmp 11), type := 0, pos := "l14_schedule.go:219", after := #[{ on := 5, ground := Ground.data }, { on := 6, ground := Ground.data }], guard := none }) (v := .pointer (some ⟨s, j, none⟩)) rfl (by kernel_rfl) (by kernel_rfl) (by kernel_rfl) (fun _ _ _ h => h) (Or.inl ⟨by rfl, fun w0 hSw => by (go_simp)⟩) hH ?_
    simp only [Act.put, List.setIfInBounds_toArray, List.set_cons_zero, List.set_cons_succ]
    refine wpAnyH_take (i := 8) (oi := { dst := some 13, op := Op.load 3 (Operand.tmp 12), type := 3, pos := "l14_schedule.go:219", after := #[{ on := 7, ground := Ground.data }], guard := none }) (v := .int .i64 (P j : Int)) rfl (by kernel_rfl) (by kernel_rfl) (by kernel_rfl) (fun _ _ _ h => h) (Or.inl ⟨by rfl, fun w0 hSw => by ((have cs := cell_nx HC2 hSw); go_simp)⟩) hH ?_
    simp only [Act.put, List.setIfInBounds_toArray, List.set_cons_zero, List.set_cons_succ]
    refine wpAnyH_take (i := 9) (oi := { dst := some 14, op := Op.binOp BinOp.gtr 3 (Operand.tmp 9) (Operand.tmp 13) 3, type := 4, pos := "l14_schedule.go:219", after := #[{ on := 4, ground := Ground.data }, { on := 8, ground := Ground.data }], guard := none }) (v := .bool false) rfl (by kernel_rfl) (by kernel_rfl) (by kernel_rfl) (fun _ _ _ h => h) (Or.inl ⟨by rfl, fun w0 hSw => by (go_simp)⟩) hH ?_
    simp only [Act.put, List.setIfInBounds_toArray, List.set_cons_zero, List.set_cons_succ]
    refine wpAnyH_take (i := 10) (oi := { dst := some 4, op := Op.assign (Operand.tmp 14), type := 4, pos := "l14_schedule.go:219", after := #[{ on := 9, ground := Ground.data }, { on := 0, ground := Ground.phase }, { on := 1, ground := Ground.phase }, { on := 2, ground := Ground.phase }, { on := 3, ground := Ground.phase }, { on := 4, ground := Ground.phase }, { on := 5, ground := Ground.phase }, { on := 6, ground := Ground.phase }, { on := 7, ground := Ground.phase }, { on := 8, ground := Ground.phase }, { on := 9, ground := Ground.phase }], guard := none }) (v := .bool false) rfl (by kernel_rfl) (by kernel_rfl) (by kernel_rfl) (fun _ _ _ h => h) (Or.inl ⟨by rfl, fun w0 hSw => by (go_simp)⟩) hH ?_
    simp only [Act.put, List.setIfInBounds_toArray, List.set_cons_zero, List.set_cons_succ]
    refine wpAnyH_done (by kernel_rfl) ?_ _
    go_wp2
    go_ret
    exact ⟨by rw [HD.out]; rfl, HBW.out⟩
set_option maxRecDepth 100000 in
set_option maxHeartbeats 2000000 in
theorem index113 (c : Rc) (a jb s n j : Nat) (P : Nat → Nat) (v : Value) (w : World) (K : Kb w a jb s n j P) (hR : PRow w v (c.np j)) (hj : j < n) (hn : n ≤ 64) : Calls Tryd.prog 113 #[v, .func (.func 87) #[] #[.pointer (some ⟨a, 0, none⟩), .pointer (some ⟨jb, 0, none⟩)]] w fun e w' => (∃ z, e = .returned (.int .i64 z) ∧ IxP z (!c.kj P j)) ∧ Below w.heap.size w w' := by
  obtain ⟨ad, cc, rfl, hr⟩ := hR
  have hll : (c.np j).length = (c.nl j).length := by have := congrArg List.length (c.npk_map j j); rw [List.length_map] at this; exact this
  have HPR : Hid (∀ q, q < (c.np j).length → ∃ (g o i : Nat) (wa : Int), ad = some ⟨g, o, none⟩ ∧ w.cell? ⟨g, o + q * 2, none⟩ = some (.int .i64 (i : Int)) ∧ w.cell? ⟨g, o + q * 2 + 1, none⟩ = some (.int .i64 wa) ∧ i < j ∧ (c.nl j).getD q 0 = (i : Int)) := fun q hq => by
    obtain ⟨g, o, h1, h2, h3⟩ := hr q hq
    obtain ⟨i, h4, h5, _⟩ := whL_getD (fun i => c.nd i j) j q (by rw [hll] at hq; exact hq)
    have h4 : (c.nl j).getD q 0 = (i : Int) := h4
    have e : ((c.np j).getD q (0, 0)).1 = (c.nl j).getD q 0 := by
      have h6 : c.nl j = (c.np j).map Prod.fst := (c.npk_map j j).symm
      rw [h6]
      simp [List.getD, hq]
    rw [e, h4] at h2
    exact ⟨g, o, i, _, h1, h2, h3, h5, h4⟩
  have HKJ : Hid (c.kj P j = allB (fun q => decide (P ((c.nl j).getD q 0).toNat ≤ P j)) (c.np j).length) := by show _ = _; rw [hll]; rfl
  have HKb := Hid.mk K
  have hln : (c.np j).length ≤ j := c.npk_len j j
  generalize c.kj P j = kj at HKJ ⊢
  generalize (c.np j).length = ln at *
  clear hr hll K
  go_enter Tryd.func113, Tryd.ntmps113
  go_wp2
  go_loopw [8] (fun i wx => ∃ k : Nat, k ≤ ln ∧ i = .int .i64 k ∧ Hid (∀ x, x < k → decide (P ((c.nl j).getD x 0).toNat ≤ P j) = true) ∧ Hid (Below w.heap.size w wx)) (fun i _ => ln - (intOf i).toNat)
  case atStart => exact ⟨0, Nat.zero_le _, rfl, fun j hj => by omega, Below.refl _ _⟩
  case round =>
    obtain ⟨k, hk, rfl, HK, HB⟩ := hrel
    by_cases hkn : k < ln
    · have i1 : (k : Int) < (ln : Int) := by omega
      have i0 : (0 : Int) ≤ (k : Int) := by omega
      obtain ⟨g, o, i, wa, rfl, h2, h3, him, hgd⟩ := HPR.out k hkn
      have c0 := cell_nx h2 HB.out
      have c1 := cell_nx h3 HB.out
      have hg := clos87 a jb s n j i wa P wr (HKb.out.next HB.out) (by omega) hj
      have hd : decide (P ((c.nl j).getD k 0).toNat ≤ P j) = decide (P i ≤ P j) := by rw [hgd, Int.toNat_natCast]
      clear h2 h3
      by_cases e : P i ≤ P j
      · rw [decide_eq_false (show ¬ P j < P i by omega)] at hg
        have HKN : Hid (∀ x, x < k + 1 → decide (P ((c.nl j).getD x 0).toNat ≤ P j) = true) := fun x hx => by
          by_cases q : x = k
          · subst q; rw [hd]; exact decide_eq_true e
          · exact HK.out x (by omega)
        clear HK hd hgd
        go_wp2_with (go_at_call 87; refine hg.mono ?_; rintro e w1 ⟨rfl, B1⟩)
        have BN : Hid (Below w.heap.size w w1) := HB.out.trans (B1.mono HB.out.size)
        clear HB B1 hg
        go_roundw
        case rel => exact ⟨k + 1, by omega, by go_num, HKN, BN⟩
        case measure => simp [intOf]; omega
      · rw [decide_eq_true (show P j < P i by omega)] at hg
        have HM : Hid (IxP (k : Int) (!kj)) := by
          show decide (0 ≤ (k : Int)) = _
          rw [HKJ.out, allB_stop _ k (by show decide (P ((c.nl j).getD k 0).toNat ≤ P j) = false; rw [hd]; exact decide_eq_false e) ln hkn, decide_eq_true i0]
          rfl
        clear HK hd hgd
        go_wp2_with (go_at_call 87; refine hg.mono ?_; rintro e w1 ⟨rfl, B1⟩)
        go_ret
        exact ⟨⟨_, rfl, HM.out⟩, HB.out.trans (B1.mono HB.out.size)⟩
    · obtain rfl : ln = k := by omega
      have i1 : ¬ (ln : Int) < (ln : Int) := by omega
      have HM : Hid (IxP (-1 : Int) (!kj)) := by
        show decide (0 ≤ (-1 : Int)) = _
        rw [HKJ.out, allB_all _ ln HK.out]
        rfl
      go_wp2
      go_ret
      exact ⟨⟨_, rfl, HM.out⟩, HB.out⟩
set_option maxRecDepth 100000 in
theorem contains86 (c : Rc) (a jb s n j : Nat) (P : Nat → Nat) (v : Value) (w : World) (K : Kb w a jb s n j P) (hR : PRow w v (c.np j)) (hj : j < n) (hn : n ≤ 64) : Calls Tryd.prog 86 #[v, .func (.func 87) #[] #[.pointer (some ⟨a, 0, none⟩), .pointer (some ⟨jb, 0, none⟩)]] w fun e w' => e = .returned (.bool (!c.kj P j)) ∧ Below w.heap.size w w' := by
  have h := index113 c a jb s n j P v w K hR hj hn
  obtain ⟨ad, cc, rfl, hr⟩ := hR
  generalize (!c.kj P j) = sb at h ⊢
  generalize (c.np j).length = ln at *
  clear hr K
  go_enter Tryd.func86, Tryd.ntmps86
  go_wp2_with (go_at_call 113; refine h.mono ?_; rintro e w1 ⟨⟨z, rfl, hz0⟩, B1⟩; (have hz : decide (0 ≤ z) = sb := hz0))
  go_ret
  exact ⟨by rw [← hz]; rfl, B1⟩
end Go.Proofs.YtcgapochcahknaaDoor
namespace Go.Proofs.YtcgapochcahknaaDoor
open Go.ChangeShapes Go.WideShapes Go.ChangeAt Go.RowKit
set_option linter.unusedVariables false
set_option maxRecDepth 100000 in
set_option maxHeartbeats 4000000 in
theorem keptby (c : Rc) (ps : List Int) (u v q : Value) (w : World) (R : RowA w u v c) (Q : ARow w q ps) (hn : c.n ≤ 64) (hl : ps.length = c.n) (hp : ∀ k, k < c.n → 0 ≤ ps.getD k 0 ∧ ps.getD k 0 < (c.n : Int)) : Calls Tryd.prog 54 #[.agg #[u, v], q] w fun e w' => e = .returned (.bool (c.kp ps)) ∧ Below w.heap.size w w' := by
  obtain ⟨i3, hi3, hz30, hz31, hz32⟩ := info_parts info3
  obtain ⟨⟨ua, uc, rfl, hua⟩, nb, rfl, hrow⟩ := R
  obtain ⟨oa, oc, rfl, hoa⟩ := Q
  rw [c.ll_len] at hua ⊢
  rw [hl] at hoa ⊢
  have HOA : Hid (∀ k, k < c.n → (0 ≤ ps.getD k 0 ∧ ps.getD k 0 < (c.n : Int)) ∧ ∃ g o, oa = some ⟨g, o, none⟩ ∧ w.cell? ⟨g, o + k, none⟩ = some (.int .i64 (ps.getD k 0))) := fun k hk => ⟨hp k hk, hoa k hk⟩
  have HRW : Hid (∀ j, j < c.n → ∃ x, w.cell? ⟨nb, j, none⟩ = some x ∧ PRow w x (c.np j)) := hrow
  have HKP : Hid (c.kp ps = allB (c.kj (atK ps c.n)) c.n) := rfl
  clear hua hoa hp hrow hl
  obtain ⟨n, hn2⟩ : ∃ n, c.n = n := ⟨_, rfl⟩
  have HN : Hid (c.n = n) := hn2
  rw [hn2] at hn HOA HRW HKP ⊢
  clear hn2
  generalize c.kp ps = kb at HKP ⊢
  go_enter Tryd.func54, Tryd.ntmps54
  go_wp2_with (at_make; refine wpList_make_full _ rfl _ _ 45 rfl (w.heap.size + 1) 3 i3 (.int .i64 0) 1 Tryd.underlying45 hi3 hz30 hz31 _ _ _ _ n rfl rfl (by first | rfl | omega) (by first | rfl | omega) (by rw [hz32]; omega) (by unfold maxLen; omega) (by simp) ?_; intro w2 hown2 hgrow2)
  have O2 : Own w2 (w.heap.size + 1) n (fun _ => .int .i64 0) := by have := own_made hown2; simpa using this
  have HVB : Below w.heap.size w (w.alloc (.cells #[.slice ua n uc, .slice (some ⟨nb, 0, none⟩) n n] 65)) := alloc_b
  have B2 : Below (w.alloc (.cells #[.slice ua n uc, .slice (some ⟨nb, 0, none⟩) n n] 65)).heap.size (w.alloc (.cells #[.slice ua n uc, .slice (some ⟨nb, 0, none⟩) n n] 65)) w2 := (Below.refl _ _).grown hgrow2 (Nat.le_refl _) (by simp)
  have HV1 : (w.alloc (.cells #[.slice ua n uc, .slice (some ⟨nb, 0, none⟩) n n] 65)).cell? ⟨w.heap.size, 1, none⟩ = some (.slice (some ⟨nb, 0, none⟩) n n) := by simp
  have HVS : (w.alloc (.cells #[.slice ua n uc, .slice (some ⟨nb, 0, none⟩) n n] 65)).heap.size = w.heap.size + 1 := by simp
  obtain ⟨V, hV⟩ : ∃ V, w.alloc (.cells #[.slice ua n uc, .slice (some ⟨nb, 0, none⟩) n n] 65) = V := ⟨_, rfl⟩
  rw [hV] at HVB B2 HV1 HVS
  clear hV hown2 hgrow2
  have HOA : Hid (∀ k, k < n → (0 ≤ ps.getD k 0 ∧ ps.getD k 0 < (n : Int)) ∧ ∃ g o, oa = some ⟨g, o, none⟩ ∧ V.cell? ⟨g, o + k, none⟩ = some (.int .i64 (ps.getD k 0))) := fun k hk => by
    obtain ⟨h0, g, o, h1, h2⟩ := HOA.out k hk
    exact ⟨h0, g, o, h1, cell_nx h2 HVB⟩
  have HRW : Hid (∀ j, j < n → ∃ x, V.cell? ⟨nb, j, none⟩ = some x ∧ PRow V x (c.np j)) := fun j hj => by
    obtain ⟨x, h1, h2⟩ := HRW.out j hj
    exact ⟨x, cell_nx h1 HVB, h2.next HVB⟩
  have A3 : Below w2.heap.size w2 (w2.alloc (.cells #[.slice (some ⟨w.heap.size + 1, 0, none⟩) n n] 45)) := alloc_b
  have O3 := O2.next A3
  have B3 : Hid (Below V.heap.size V (w2.alloc (.cells #[.slice (some ⟨w.heap.size + 1, 0, none⟩) n n] 45))) := B2.trans (A3.mono B2.size)
  have C3 : Hid ((w2.alloc (.cells #[.slice (some ⟨w.heap.size + 1, 0, none⟩) n n] 45)).cell? ⟨w2.heap.size, 0, none⟩ = some (.slice (some ⟨w.heap.size + 1, 0, none⟩) n n)) := by show _ = _; simp
  have HSA : Hid (w.heap.size + 1 < w2.heap.size) := O2.hi
  clear A3 O2 B2
  obtain ⟨bx, hbx⟩ : ∃ bx, w.heap.size = bx := ⟨_, rfl⟩
  rw [hbx] at O3 HV1 HVS B3 C3 HSA ⊢
  have HVB : Hid (Below w.heap.size w V) := HVB
  have HV1 : Hid (V.cell? ⟨bx, 1, none⟩ = some (.slice (some ⟨nb, 0, none⟩) n n)) := HV1
  obtain ⟨s, hs⟩ : ∃ s, bx + 1 = s := ⟨_, rfl⟩
  rw [hs] at O3 HVS B3 C3 HSA ⊢
  have HVS : Hid (V.heap.size = s) := HVS
  have O3 : Hid (Own (w2.alloc (.cells #[.slice (some ⟨s, 0, none⟩) n n] 45)) s n (fun i => .int .i64 (atK ps 0 i : Int))) := O3
  generalize w2.heap.size = a at C3 HSA ⊢
  clear hs hbx
  go_loopw [15] (fun i wr => ∃ k : Nat, k ≤ n ∧ i = .int .i64 k ∧ Hid (Own wr s n (fun i => .int .i64 (atK ps k i : Int))) ∧ Hid (wr.cell? ⟨a, 0, none⟩ = some (.slice (some ⟨s, 0, none⟩) n n)) ∧ Hid (Below V.heap.size V wr)) (fun i _ => n - (intOf i).toNat)
  case atStart => exact ⟨0, Nat.zero_le _, rfl, O3, C3, B3⟩
  case round =>
    obtain ⟨k, hk, rfl, HS, HC, HB⟩ := hrel
    clear O3 C3 B3
    by_cases hkn : k < n
    · have j1 : (k : Int) < (n : Int) := by omega
      have j0 : (0 : Int) ≤ (k : Int) := by omega
      obtain ⟨⟨p0, p1⟩, g, o, rfl, hc⟩ := HOA.out k hkn
      have co := cell_nx hc HB.out
      have ca := HC.out
      have HA : Hid (atK ps (k + 1) = upN (atK ps k) (ps.getD k 0).toNat k) := rfl
      obtain ⟨m, hm⟩ : ∃ m : Nat, ps.getD k 0 = (m : Int) := ⟨(ps.getD k 0).toNat, by omega⟩
      rw [hm] at co p0 p1 HA
      rw [Int.toNat_natCast] at HA
      have cs := HS.out.cell m (by omega)
      have fs := HS.out.free m
      have ON : Only s wr (wr.setCell ⟨s, m, none⟩ (.int .i64 (k : Int))) := (Only.refl _ _).setCell _ _
      have S1 : Hid (Own (wr.setCell ⟨s, m, none⟩ (.int .i64 (k : Int))) s n (fun i => .int .i64 (atK ps (k + 1) i : Int))) := HS.out.set m _ (by omega) (fun i hi => by
        rw [HA.out]
        unfold upN
        by_cases e : i = m
        · rw [if_pos e, if_pos e]
        · rw [if_neg e, if_neg e])
      have B1 : Hid (Below V.heap.size V (wr.setCell ⟨s, m, none⟩ (.int .i64 (k : Int)))) := HB.out.trans (ON.below (by have := HVS.out; omega) HB.out.size)
      have C1 : Hid ((wr.setCell ⟨s, m, none⟩ (.int .i64 (k : Int))).cell? ⟨a, 0, none⟩ = some (.slice (some ⟨s, 0, none⟩) n n)) := only_cell ON HC.out (by have := HSA.out; omega)
      clear HS HB ON HA hc hm HC
      go_wp2
      go_roundw
      case rel => exact ⟨k + 1, by omega, by go_num, S1, C1, B1⟩
      case measure => simp [intOf]; omega
    · obtain rfl : n = k := by omega
      have j1 : ¬ (n : Int) < (n : Int) := by omega
      generalize atK ps n = P at HS HKP
      have b1 := cell_nx HV1.out HB.out
      obtain ⟨W4, hW4⟩ : ∃ W4, wr = W4 := ⟨_, rfl⟩
      rw [hW4] at HS HC HB b1 ⊢
      clear hW4
      go_wp2
      clear b1
      go_loopw [28] (fun i wr => ∃ j : Nat, j ≤ n ∧ i = .int .i64 j ∧ Hid (∀ x, x < j → c.kj P x = true) ∧ Hid (Below W4.heap.size W4 wr)) (fun i _ => n - (intOf i).toNat)
      case atStart => exact ⟨0, Nat.zero_le _, rfl, fun x hx => by omega, Below.refl _ _⟩
      case round =>
        obtain ⟨j, hj, rfl, HK, HX⟩ := hrel
        by_cases hjn : j < n
        · have j2 : (j : Int) < (n : Int) := by omega
          have j0 : (0 : Int) ≤ (j : Int) := by omega
          have hBV := HB.out.trans (HX.out.mono HB.out.size)
          obtain ⟨x, hx, hpr⟩ := HRW.out j hjn
          have cx := cell_nx hx hBV
          have BA : Below wr.heap.size wr (wr.alloc (.cells #[.int .i64 (j : Int)] 3)) := alloc_b
          have hPR := (hpr.next hBV).next BA
          have hKb : Kb (wr.alloc (.cells #[.int .i64 (j : Int)] 3)) a wr.heap.size s n j P := ⟨cell_nx (cell_nx HC.out HX.out) BA, by simp, fun i hi => cell_nx ((HS.out.next HX.out).cell i hi) BA⟩
          have hg := contains86 c a wr.heap.size s n j P x _ hKb hPR hjn hn
          have BXX : Hid (Below W4.heap.size W4 (wr.alloc (.cells #[.int .i64 (j : Int)] 3))) := HX.out.trans (BA.mono HX.out.size)
          have HST : Hid (c.kj P j = false → kb = false) := fun h => by rw [HKP.out]; exact allB_stop _ j h n hjn
          have HKe : Hid (c.kj P j = true → ∀ x, x < j + 1 → c.kj P x = true) := fun h x hx => by
            by_cases e : x = j
            · subst e; exact h
            · exact HK.out x (by omega)
          obtain ⟨ad, cc, rfl, _⟩ := hpr
          generalize (c.np j).length = ln at *
          generalize c.kj P j = kj at hg HST HKe
          clear hx hPR hKb BA hBV HX HK
          cases kj
          · have HF := Hid.mk (HST.out rfl)
            go_wp2_with (go_at_call 86; refine hg.mono ?_; rintro e w6 ⟨rfl, B6⟩)
            go_ret
            exact ⟨by rw [HF.out]; rfl, HVB.out.trans ((HB.out.trans ((BXX.out.trans (B6.mono BXX.out.size)).mono HB.out.size)).mono HVB.out.size)⟩
          · have HKN := Hid.mk (HKe.out rfl)
            go_wp2_with (go_at_call 86; refine hg.mono ?_; rintro e w6 ⟨rfl, B6⟩)
            have BN : Hid (Below W4.heap.size W4 w6) := BXX.out.trans (B6.mono BXX.out.size)
            clear hg B6
            go_roundw
            case rel => exact ⟨j + 1, by omega, by go_num, HKN, BN⟩
            case measure => simp [intOf]; omega
        · obtain rfl : n = j := by omega
          have j2 : ¬ (n : Int) < (n : Int) := by omega
          have HT : Hid (kb = true) := by
            show _ = _
            rw [HKP.out]
            exact allB_all _ n HK.out
          go_wp2
          go_ret
          exact ⟨by rw [HT.out]; rfl, HVB.out.trans ((HB.out.trans (HX.out.mono HB.out.size)).mono HVB.out.size)⟩
end Go.Proofs.YtcgapochcahknaaDoor
namespace Go.Proofs.YtcgapochcahknaaDoor
open Go.ChangeShapes Go.WideShapes Go.ChangeAt Go.RowKit
set_option linter.unusedVariables false
set_option maxRecDepth 100000 in
set_option maxHeartbeats 4000000 in
theorem preorder (b off cap : Nat) (c : Rc) (ps : List Int) (q : Value) (w : World) (G : Forms w) (R : Ir w b off c) (hX : c.wd) (Q : ARow w q ps) (hn : c.n ≤ 1048576) : Calls Tryd.prog 28 #[.slice (some ⟨b, off, none⟩) c.n cap, q] w fun e w' => ∃ u, e = .returned (.tuple #[u, .bool (c.ro ps)]) ∧ (RowIV w' u (c.rn ps) (c.by ps).O (c.by ps).D (c.by ps).A (c.by ps).B (c.by ps).C (c.by ps).X ∧ ∀ g, u.ownBlock = some g → w.heap.size ≤ g) ∧ Below w.heap.size w w' := by
  obtain ⟨i5, hi5, hz50, hz51, hz52⟩ := info_parts infoI
  have h46 := rowof b off cap c w G R hX hn
  have HR := Hid.mk R
  have H53 : Hid (c.row = true → ∀ v, Below w.heap.size w v → Calls Tryd.prog 53 #[q, .int .i64 (c.n : Int)] v fun e w' => e = .returned (.bool (ordB ps c.n)) ∧ Below v.heap.size v w') := fun hr v k => isorder ps q c.n v (Q.next k) (Rc.row_n hr).2
  have H54 : Hid (c.row = true → ordB ps c.n = true → ∀ ua ul uc va vl vc w1, Below w.heap.size w w1 → RowA w1 (.slice ua ul uc) (.slice va vl vc) c → ∀ v, Below w1.heap.size w1 v → Calls Tryd.prog 54 #[.agg #[.slice ua ul uc, .slice va vl vc], q] v fun e w' => e = .returned (.bool (c.kp ps)) ∧ Below v.heap.size v w') := fun hr ho ua ul uc va vl vc w1 k1 r v k => keptby c ps _ _ q v (r.next k) ((Q.next k1).next k) (Rc.row_n hr).2 (ordB_at ho).1 (ordB_at ho).2
  have HRO : Hid (c.ro ps = ((c.row && ordB ps c.n) && c.kp ps)) := rfl
  have HRN : Hid (c.rn ps = if c.ro ps then c.n else 0) := rfl
  have HOK : Hid (ordB ps c.n = true → ps.length = c.n ∧ ∀ k, k < c.n → 0 ≤ ps.getD k 0 ∧ ps.getD k 0 < (c.n : Int)) := fun h => ordB_at h
  have HN64 : Hid (c.row = true → c.n ≤ 64) := fun h => (Rc.row_n h).2
  rw [HRN.out, HRO.out]
  clear HRN HRO R hX hn G
  obtain ⟨oa, oc, rfl, hoa⟩ := Q
  generalize c.row = r at h46 H53 H54 HN64 ⊢
  cases r
  case false =>
    simp only [Bool.false_and, Bool.false_eq_true, if_false]
    go_enter Tryd.func28, Tryd.ntmps28
    go_wp2_with (go_at_call 46; refine h46.mono ?_; rintro e w1 ⟨ua, ul, uc, va, vl, vc, rfl, _, B1⟩)
    go_ret2
    exact ⟨_, rfl, ⟨Or.inl ⟨rfl, rfl⟩, fun g hg => by cases hg⟩, B1.alloc B1.size _⟩
  have hn := HN64.out rfl
  have h53 := Hid.mk (H53.out rfl)
  have h54 := Hid.mk (H54.out rfl)
  clear H53 H54 HN64
  generalize hor : ordB ps c.n = ob at h53 h54 HOK ⊢
  cases ob
  case false =>
    simp only [Bool.true_and, Bool.false_and, Bool.false_eq_true, if_false]
    go_enter Tryd.func28, Tryd.ntmps28
    go_wp2_with (first | (go_at_call 46; refine h46.mono ?_; rintro e w1 ⟨ua, ul, uc, va, vl, vc, rfl, _, B1⟩; (have B1a := B1.alloc B1.size (.cells #[.slice ua ul uc, .slice va vl vc] 65))) | (go_at_call 53; refine (h53.out _ B1a).mono ?_; rintro e w2 ⟨rfl, B2⟩))
    go_ret2
    exact ⟨_, rfl, ⟨Or.inl ⟨rfl, rfl⟩, fun g hg => by cases hg⟩, B1a.trans (B2.mono B1a.size)⟩
  simp only [Bool.true_and]
  obtain ⟨hl, hp⟩ := HOK.out rfl
  have h55 := Hid.mk (h54.out rfl)
  clear h54
  have HP := Hid.mk hp
  rw [hl] at hoa h53 h55 ⊢
  have HOA : Hid (∀ k, k < c.n → ∃ g o, oa = some ⟨g, o, none⟩ ∧ w.cell? ⟨g, o + k, none⟩ = some (.int .i64 (ps.getD k 0))) := hoa
  clear hoa hl hp hor HOK
  obtain ⟨n, hn2⟩ : ∃ n, c.n = n := ⟨_, rfl⟩
  have HN : Hid (c.n = n) := hn2
  rw [hn2] at hn HOA HP h46 h53 h55 ⊢
  clear hn2
  generalize c.kp ps = kb at h55 ⊢
  cases kb
  case false =>
    simp only [Bool.false_eq_true, if_false]
    go_enter Tryd.func28, Tryd.ntmps28
    go_wp2_with (first | (go_at_call 46; refine h46.mono ?_; rintro e w1 ⟨ua, ul, uc, va, vl, vc, rfl, hra, B1⟩; (have B1a := B1.alloc B1.size (.cells #[.slice ua ul uc, .slice va vl vc] 65)); (have A1 : Below w1.heap.size w1 (w1.alloc (.cells #[.slice ua ul uc, .slice va vl vc] 65)) := alloc_b); (have hx0 : (w1.alloc (.cells #[.slice ua ul uc, .slice va vl vc] 65)).cell? ⟨w1.heap.size, 0, none⟩ = some (.slice ua ul uc) := by simp); (have hx1 : (w1.alloc (.cells #[.slice ua ul uc, .slice va vl vc] 65)).cell? ⟨w1.heap.size, 1, none⟩ = some (.slice va vl vc) := by simp)) | (go_at_call 53; refine (h53.out _ B1a).mono ?_; rintro e w2 ⟨rfl, B2⟩; (replace hx0 := cell_nx hx0 B2); (replace hx1 := cell_nx hx1 B2)) | (go_at_call 54; refine (h55.out _ _ _ _ _ _ w1 B1 (hra (by first | trivial | rfl)) _ (A1.trans (B2.mono A1.size))).mono ?_; rintro e w3 ⟨rfl, B3⟩))
    go_ret2
    have B2a := B1a.trans (B2.mono B1a.size)
    exact ⟨_, rfl, ⟨Or.inl ⟨rfl, rfl⟩, fun g hg => by cases hg⟩, B2a.trans (B3.mono B2a.size)⟩
  simp only [if_true]
  go_enter Tryd.func28, Tryd.ntmps28
  go_wp2_with (first | (go_at_call 46; refine h46.mono ?_; rintro e w1 ⟨ua, ul, uc, va, vl, vc, rfl, hra, B1⟩; (have B1a := B1.alloc B1.size (.cells #[.slice ua ul uc, .slice va vl vc] 65)); (have A1 : Below w1.heap.size w1 (w1.alloc (.cells #[.slice ua ul uc, .slice va vl vc] 65)) := alloc_b); (have hx0 : (w1.alloc (.cells #[.slice ua ul uc, .slice va vl vc] 65)).cell? ⟨w1.heap.size, 0, none⟩ = some (.slice ua ul uc) := by simp); (have hx1 : (w1.alloc (.cells #[.slice ua ul uc, .slice va vl vc] 65)).cell? ⟨w1.heap.size, 1, none⟩ = some (.slice va vl vc) := by simp)) | (go_at_call 53; refine (h53.out _ B1a).mono ?_; rintro e w2 ⟨rfl, B2⟩; (replace hx0 := cell_nx hx0 B2); (replace hx1 := cell_nx hx1 B2)) | (go_at_call 54; refine (h55.out _ _ _ _ _ _ w1 B1 (hra (by first | trivial | rfl)) _ (A1.trans (B2.mono A1.size))).mono ?_; rintro e w3 ⟨rfl, B3⟩))
  have B2a := B1a.trans (B2.mono B1a.size)
  have B3a : Hid (Below w.heap.size w w3) := B2a.trans (B3.mono B2a.size)
  clear hx0 hx1 B1a B2a B1 B2 B3 A1 hra h46 h53 h55
  go_loopw [8, 33] (fun vv i wr => ∃ (k : Nat) (u : Value), k ≤ n ∧ i = .int .i64 k ∧ u = vv ∧ Hid (wr.ownsRow w.heap.size 35 6 u k (cellsP (c.by ps).O (c.by ps).D (c.by ps).A (c.by ps).B (c.by ps).C (c.by ps).X k)) ∧ Hid (Below w.heap.size w wr)) (fun _ i _ => n - (intOf i).toNat)
  case atStart => exact ⟨0, _, by omega, rfl, rfl, World.ownsRow_nil _ _ _ _, B3a⟩
  case round =>
    obtain ⟨k, u, hk, rfl, rfl, HU, HB⟩ := hrel
    clear B3a
    by_cases hkn : k < n
    · have i1 : (k : Int) < (n : Int) := by omega
      have i0 : (0 : Int) ≤ (k : Int) := by omega
      obtain ⟨g, o, rfl, hc⟩ := HOA.out k hkn
      have co := cell_nx hc HB.out
      obtain ⟨p0, p1⟩ := HP.out k hkn
      have HC : Hid (cellsP (c.by ps).O (c.by ps).D (c.by ps).A (c.by ps).B (c.by ps).C (c.by ps).X (k + 1) = cellsP (c.by ps).O (c.by ps).D (c.by ps).A (c.by ps).B (c.by ps).C (c.by ps).X k ++ [.int .i64 (c.O (ps.getD k 0).toNat), .int .i64 (c.D (ps.getD k 0).toNat), .int .i64 (c.A (ps.getD k 0).toNat), .int .i64 (c.B (ps.getD k 0).toNat), .int .i64 (c.C (ps.getD k 0).toNat), .int .u32 (c.X (ps.getD k 0).toNat)]) := rfl
      obtain ⟨m, hm⟩ : ∃ m : Nat, ps.getD k 0 = (m : Int) := ⟨(ps.getD k 0).toNat, by omega⟩
      rw [hm] at co p0 p1 HC
      rw [Int.toNat_natCast] at HC
      have m1 : m < c.n := by rw [HN.out]; omega
      have RK := HR.out.next HB.out
      have c0 := RK.c0 m m1
      have c1 := RK.c1 m m1
      have c2 := RK.c2 m m1
      have c3 := RK.c3 m m1
      have c4 := RK.c4 m m1
      have c5 := RK.c5 m m1
      clear RK hc hm
      go_wp2_with (at_builtin; refine wpList_append_own _ rfl _ _ 24 rfl w.heap.size 35 i5 (.agg #[.int .i64 0, .int .i64 0, .int .i64 0, .int .i64 0, .int .i64 0, .int .u32 0]) 6 48 Tryd.underlying24 hi5 hz50 hz51 hz52 rfl (by decide) _ _ _ rfl (HU.out.alloc _) ⟨_, 0, none⟩ 1 1 [.int .i64 (c.O m), .int .i64 (c.D m), .int .i64 (c.A m), .int .i64 (c.B m), .int .i64 (c.C m), .int .u32 (c.X m)] rfl rfl (six_new _ _ _ _ _ _) (six_one _ _ _ _ _ _) (by unfold maxLen; omega) (by omega) (by have := HB.out.size; simp; omega) ?_; intro v3 w3 hown hgrow _)
      have B3 : Hid (Below w.heap.size w w3) := (HB.out.alloc HB.out.size _).grown hgrow (by have := HB.out.size; simp; omega) (fun q hq => (HU.out.lt q hq).1)
      have U3 : Hid (w3.ownsRow w.heap.size 35 6 v3 (k + 1) (cellsP (c.by ps).O (c.by ps).D (c.by ps).A (c.by ps).B (c.by ps).C (c.by ps).X (k + 1))) := by
        show World.ownsRow _ _ _ _ _ _ _
        rw [HC.out]
        exact hown
      go_roundw
      case rel => exact ⟨k + 1, _, by omega, by go_num, rfl, U3, B3⟩
      case measure => simp [intOf]; omega
    · obtain rfl : n = k := by omega
      have i1 : ¬ (n : Int) < (n : Int) := by omega
      go_wp2
      go_ret2
      exact ⟨_, rfl, rowIV_of HU.out, HB.out⟩
end Go.Proofs.YtcgapochcahknaaDoor
namespace Go.Proofs.YtcgapochcahknaaDoor
open Go.ChangeShapes Go.WideShapes Go.ChangeAt Go.RowKit
set_option linter.unusedVariables false
def fl (f : Nat → Int) : Nat → List Int
  | 0 => []
  | k + 1 => fl f k ++ [f k]
theorem fl_len (f : Nat → Int) : ∀ k, (fl f k).length = k
  | 0 => rfl
  | k + 1 => by rw [fl, List.length_append, fl_len f k]; rfl
theorem fl_at (f : Nat → Int) : ∀ k i, i < k → (fl f k).getD i 0 = f i
  | 0, i, h => absurd h (Nat.not_lt_zero _)
  | k + 1, i, h => by
    rw [fl]
    by_cases e : i = k
    · subst e
      simp [List.getD, fl_len f i]
    · have := fl_at f k i (by omega)
      rw [← this]
      simp [List.getD, List.getElem?_append_left (show i < (fl f k).length by rw [fl_len]; omega)]
theorem own_arow {w : World} {g n cp : Nat} {f : Nat → Int} (O : Own w g n (fun i => .int .i64 (f i))) : ARow w (.slice (some ⟨g, 0, none⟩) n cp) (fl f n) := by
  refine ⟨some ⟨g, 0, none⟩, cp, by rw [fl_len], fun i hi => ⟨g, 0, rfl, ?_⟩⟩
  rw [fl_len] at hi
  rw [fl_at f n i hi, Nat.zero_add]
  exact O.cell i hi
set_option maxRecDepth 100000 in
set_option maxHeartbeats 2000000 in
theorem toN27 {w : World} {a : Option Addr} {n : Nat} {f : Nat → Int} (h : Arg w a n (fun i => .int .i64 (f i))) (cap : Nat) (hn : n ≤ 1048576) : Calls Tryd.prog 27 #[.slice a n cap] w fun r w' => r = .returned (.slice (some ⟨w.heap.size, 0, none⟩) n n) ∧ Own w' w.heap.size n (fun i => .int .i64 (f i)) ∧ Below w.heap.size w w' := by
  obtain ⟨i3, hi3, hz30, hz31, hz32⟩ := info_parts info3
  have HA : Hid (∀ v, Below w.heap.size w v → ∀ k, k < n → ∃ b off, a = some ⟨b, off, none⟩ ∧ v.cell? ⟨b, off + k, none⟩ = some (.int .i64 (f k))) := fun v bv k hk => by
    rcases h with h | ⟨b, off, h1, h2, h3⟩
    · omega
    · exact ⟨b, off, h1, cell_nx (h3 k hk) bv⟩
  clear h
  go_enter Tryd.func27, Tryd.ntmps27
  go_wp2_with (at_make; refine wpList_make_full _ rfl _ _ 45 rfl w.heap.size 3 i3 (.int .i64 0) 1 Tryd.underlying45 hi3 hz30 hz31 _ _ _ _ n rfl rfl (by first | rfl | omega) (by first | rfl | omega) (by rw [hz32]; omega) (by unfold maxLen; omega) (by simp) ?_; intro w2 hown2 hgrow2)
  have O2 : Hid (Own w2 w.heap.size n (fun i => .int .i64 (if i < 0 then f i else 0))) := own_made hown2
  have B2 : Hid (Below w.heap.size w w2) := (Below.refl _ _).grown hgrow2 (Nat.le_refl _) (by simp)
  clear hown2 hgrow2
  go_loopw [4] (fun i wr => ∃ k : Nat, k ≤ n ∧ i = .int .i64 k ∧ Hid (Own wr w.heap.size n (fun i => .int .i64 (if i < k then f i else 0))) ∧ Hid (Below w.heap.size w wr)) (fun i _ => n - (intOf i).toNat)
  case atStart => exact ⟨0, Nat.zero_le _, rfl, O2, B2⟩
  case round =>
    obtain ⟨k, hk, rfl, HS, HB⟩ := hrel
    clear O2 B2
    by_cases hkn : k < n
    · have j1 : (k : Int) < (n : Int) := by omega
      have j0 : (0 : Int) ≤ (k : Int) := by omega
      obtain ⟨b, off, rfl, hc⟩ := HA.out wr HB.out k hkn
      have cs := HS.out.cell k hkn
      have fs := HS.out.free k
      have S1 : Hid (Own (wr.setCell ⟨w.heap.size, k, none⟩ (.int .i64 (f k))) w.heap.size n (fun i => .int .i64 (if i < k + 1 then f i else 0))) := HS.out.set k _ hkn (fun i hi => by
        by_cases e : i = k
        · subst e; rw [if_pos rfl, if_pos (by omega)]
        · rw [if_neg e]
          by_cases e2 : i < k
          · rw [if_pos e2, if_pos (by omega)]
          · rw [if_neg e2, if_neg (by omega)])
      have B1 : Hid (Below w.heap.size w (wr.setCell ⟨w.heap.size, k, none⟩ (.int .i64 (f k)))) := HB.out.setCell (p := ⟨w.heap.size, k, none⟩) (Nat.le_refl _) _
      clear HS HB
      go_wp2
      go_roundw
      case rel => exact ⟨k + 1, by omega, by go_num, S1, B1⟩
      case measure => simp [intOf]; omega
    · obtain rfl : n = k := by omega
      have j1 : ¬ (n : Int) < (n : Int) := by omega
      go_wp2
      go_ret
      exact ⟨rfl, HS.out.mono (Nat.le_refl _) (fun i hi => by rw [if_pos hi]), HB.out⟩
set_option maxRecDepth 100000 in
theorem szR (a : Option Addr) (n cap : Nat) (w : World) (hn : n ≤ 9223372036854775807) : Calls Tryd.prog 9 #[.slice a n cap, .int .i64 1048576] w fun r w' => r = .returned (.int .i64 (if 1048576 < n then -1 else (1048576 : Int) - (n : Int))) ∧ w' = w := by
  by_cases big : 1048576 < n
  · have h : (1048576 : Int) - (n : Int) < 0 := by omega
    go_enter Tryd.func9, Tryd.ntmps9
    go_wp2
    go_ret
    exact ⟨rfl, rfl⟩
  · have h : 0 ≤ (1048576 : Int) - (n : Int) := by omega
    go_enter Tryd.func9, Tryd.ntmps9
    go_wp2
    go_ret
    exact ⟨rfl, rfl⟩
set_option maxHeartbeats 16000000 in
set_option maxRecDepth 100000 in
theorem reorder_law (w : World) (G : Forms w) (s0 : Option Addr) (n0 c0 : Nat) (O D A B C X : Nat → Int) (m0 : n0 ≤ 9223372036854775807) (A0 : ArgI w s0 n0 O D A B C X) (s1 : Option Addr) (n1 c1 : Nat) (f1 : Nat → Int) (m1 : n1 ≤ 9223372036854775807) (A1 : Arg w s1 n1 (fun i => .int .i64 (f1 i))) (m : Nat) (P0 P1 P2 P3 P4 P5 : Nat → Int) (GG : Bool) (hm : n0 ≤ 1048576 → m ≤ 1048576)
    (HM : ∀ a g v, RowI v a n0 O D A B C X → Own v g n1 (fun i => .int .i64 (f1 i)) → n0 ≤ 1048576 → Calls Tryd.prog 26 #[.slice (some ⟨a, 0, none⟩) n0 n0, .slice (some ⟨g, 0, none⟩) n1 n1] v fun e w' => ∃ u, e = .returned (.tuple #[u, .bool GG]) ∧ (RowIV w' u m P0 P1 P2 P3 P4 P5 ∧ ∀ g, u.ownBlock = some g → v.heap.size ≤ g) ∧ Below v.heap.size v w')
    (HP : ∀ a g v, Forms v → RowI v a n0 O D A B C X → Own v g n1 (fun i => .int .i64 (f1 i)) → n0 ≤ 1048576 → Calls Tryd.prog 28 #[.slice (some ⟨a, 0, none⟩) n0 n0, .slice (some ⟨g, 0, none⟩) n1 n1] v fun e w' => ∃ u, e = .returned (.tuple #[u, .bool GG]) ∧ (RowIV w' u m P0 P1 P2 P3 P4 P5 ∧ ∀ g, u.ownBlock = some g → v.heap.size ≤ g) ∧ Below v.heap.size v w') :
    Calls Tryd.prog 7 #[.slice s0 n0 c0, .slice s1 n1 c1] w fun e w' => e = .returned (.bool true) ∧ Below w.heap.size w w' := by
  have HS : Hid (Calls Tryd.prog 9 #[.slice s0 n0 c0, .int .i64 1048576] w fun r w' => r = .returned (.int .i64 (if 1048576 < n0 then -1 else (1048576 : Int) - (n0 : Int))) ∧ w' = w) := szR s0 n0 c0 w m0
  have HT : Hid (∀ w', Below w.heap.size w w' → n0 ≤ 1048576 → Calls Tryd.prog 11 #[.slice s0 n0 c0] w' fun r w'' => r = .returned (.slice (some ⟨w'.heap.size, 0, none⟩) n0 n0) ∧ RowI w'' w'.heap.size n0 O D A B C X ∧ Below w'.heap.size w' w'') := fun w' b hn => argToI (A0.next b) c0 hn
  by_cases big : 1048576 < n1
  · have b1 : (1048576 : Int) < (n1 : Int) := by omega
    clear HT HS HM HP A0 A1 G
    go_enter Tryd.func7, Tryd.ntmps7
    go_wp2
    go_ret
    exact ⟨rfl, Below.refl _ _⟩
  have b1 : ¬ (1048576 : Int) < (n1 : Int) := by omega
  have hn1 : n1 ≤ 1048576 := by omega
  have HI : Hid (∀ w', Below w.heap.size w w' → Calls Tryd.prog 27 #[.slice s1 n1 c1] w' fun r w'' => r = .returned (.slice (some ⟨w'.heap.size, 0, none⟩) n1 n1) ∧ Own w'' w'.heap.size n1 (fun i => .int .i64 (f1 i)) ∧ Below w'.heap.size w' w'') := fun w' b => toN27 (A1.next b) c1 hn1
  have HF : Hid (∀ w', Below w.heap.size w w' → Forms w') := fun w' b => G.below b
  have H17 := Hid.mk HM
  have HE : Hid (∀ u v w', ARow w' u (fl f1 n1) → ARow w' v (fl f1 n1) → Calls Tryd.prog 29 #[u, v] w' fun r w'' => r = .returned (.bool true) ∧ Below w'.heap.size w' w'') := fun u v w' a b => (eqA25 (by rw [fl_len]; exact hn1) a b).mono fun e w'' ⟨h1, k, h2⟩ => ⟨h1, by rw [h2]; exact below_drewN (Below.refl _ _) k⟩
  have H18 := Hid.mk HP
  clear A0 A1 G HM HP
  have hS := HS.out
  clear HS
  by_cases big0 : 1048576 < n0
  · rw [if_pos big0] at hS
    clear HT HI HF H17 H18 hm HE
    go_enter Tryd.func7, Tryd.ntmps7
    go_wp2_with (go_at_call 9; refine hS.mono ?_; rintro e w1 ⟨rfl, hw⟩; subst w1)
    go_ret
    exact ⟨rfl, Below.refl _ _⟩
  rw [if_neg big0] at hS
  have hn : n0 ≤ 1048576 := by omega
  obtain ⟨z, hz⟩ : ∃ z : Int, (1048576 : Int) - (n0 : Int) = z := ⟨_, rfl⟩
  rw [hz] at hS
  have z0 : ¬ z < 0 := by omega
  clear hz
  have HMm : Hid (m ≤ 1048576) := hm hn
  clear hm
  cases GG
  all_goals
    go_enter Tryd.func7, Tryd.ntmps7
    go_wp2_with (first | (go_at_call 9; refine hS.mono ?_; rintro e w1 ⟨rfl, hw⟩; subst w1) | (go_at_call 11; refine (HT.out w (Below.refl _ _) hn).mono ?_; rintro e w2 ⟨rfl, X2, B2⟩) | (go_at_call 27; refine (HI.out w2 B2).mono ?_; rintro e w2b ⟨rfl, Y2, C2⟩) | (go_at_call 26; refine (H17.out w.heap.size w2.heap.size w2b (X2.next C2) Y2 hn).mono ?_; rintro e w3 ⟨u0, rfl, ⟨U0, V0⟩, B3⟩))
    have B02 : Below w.heap.size w w2b := B2.trans (C2.mono B2.size)
    have B03 : Hid (Below w.heap.size w w3) := B02.trans (B3.mono B02.size)
    have HU0 : Hid (RowIV w3 u0 m P0 P1 P2 P3 P4 P5) := U0
    have HV0 : Hid (∀ g, u0.ownBlock = some g → g < w3.heap.size) := U0.lt
    clear U0 V0 X2 B2 B3 Y2 C2 B02
    go_wp2_with (first | (go_at_call 11; refine (HT.out w3 B03.out hn).mono ?_; rintro e w4 ⟨rfl, X4, B4⟩) | (go_at_call 27; refine (HI.out w4 (B03.out.trans (B4.mono B03.out.size))).mono ?_; rintro e w4b ⟨rfl, Y4, C4⟩) | (go_at_call 28; refine (H18.out w3.heap.size w4.heap.size w4b (HF.out _ (B03.out.trans ((B4.trans (C4.mono B4.size)).mono B03.out.size))) (X4.next C4) Y4 hn).mono ?_; rintro e w5 ⟨u1, rfl, ⟨U1, V1⟩, B5⟩))
    have B34 : Below w3.heap.size w3 w4b := B4.trans (C4.mono B4.size)
    have B35 : Hid (Below w3.heap.size w3 w5) := B34.trans (B5.mono B34.size)
    have B05 : Hid (Below w.heap.size w w5) := B03.out.trans (B35.out.mono B03.out.size)
    have U05 : Hid (RowIV w5 u0 m P0 P1 P2 P3 P4 P5) := HU0.out.next B35.out
    have U15 : Hid (RowIV w5 u1 m P0 P1 P2 P3 P4 P5) := U1
    have HQ : Hid (w3.heap.size < w4.heap.size) := X4.hi
    have HV1 : Hid (∀ g, u1.ownBlock = some g → w4.heap.size < g) := fun g hg => by have := V1 g hg; have := Y4.hi; omega
    have X5 : Hid (RowI w5 w3.heap.size n0 O D A B C X) := (X4.next C4).next B5
    have Y5 : Hid (Own w5 w4.heap.size n1 (fun i => .int .i64 (f1 i))) := Y4.next B5
    clear U1 V1 X4 B4 B5 HU0 B35 B34 C4 Y4
    generalize w4.heap.size = qo at Y5 HQ HV1 ⊢
    go_wp2_with (first | (go_at_call 13; refine (eqRowIV U15.out U05.out HMm.out).mono ?_; rintro e w6 ⟨rfl, B6⟩))
    have U06 : Hid (RowIV w6 u0 m P0 P1 P2 P3 P4 P5) := U05.out.next B6
    have U16 : Hid (RowIV w6 u1 m P0 P1 P2 P3 P4 P5) := U15.out.next B6
    have X6 : Hid (RowI w6 w3.heap.size n0 O D A B C X) := X5.out.next B6
    have Y6 : Hid (Own w6 qo n1 (fun i => .int .i64 (f1 i))) := Y5.out.next B6
    have B06 : Hid (Below w.heap.size w w6) := B05.out.trans (B6.mono B05.out.size)
    clear U05 U15 X5 B05 B6 Y5
    go_wp2_with (first | (go_at_call 11; refine (HT.out w6 B06.out hn).mono ?_; rintro e w7 ⟨rfl, X7, B7⟩) | (go_at_call 13; refine (eqRowI (X6.out.next B7) X7 n0 n0 hn).mono ?_; rintro e w8 ⟨rfl, B8⟩))
    have B68 : Hid (Below w6.heap.size w6 w8) := B7.trans (B8.mono B7.size)
    have U08 : Hid (RowIV w8 u0 m P0 P1 P2 P3 P4 P5) := U06.out.next B68.out
    have U18 : Hid (RowIV w8 u1 m P0 P1 P2 P3 P4 P5) := U16.out.next B68.out
    have X8 : Hid (RowI w8 w3.heap.size n0 O D A B C X) := X6.out.next B68.out
    have Y8 : Hid (Own w8 qo n1 (fun i => .int .i64 (f1 i))) := Y6.out.next B68.out
    have B08 : Hid (Below w.heap.size w w8) := B06.out.trans (B68.out.mono B06.out.size)
    clear U06 U16 X6 Y6 B06 B7 B8 X7 B68
    go_wp2_with (first | (go_at_call 27; refine (HI.out w8 B08.out).mono ?_; rintro e w9 ⟨rfl, Y9, B9⟩) | (go_at_call 29; refine (HE.out _ _ w9 (own_arow (Y8.out.next B9)) (own_arow Y9)).mono ?_; rintro e wA ⟨rfl, BA⟩))
    have B8A : Hid (Below w8.heap.size w8 wA) := B9.trans (BA.mono B9.size)
    have U0A : Hid (RowIV wA u0 m P0 P1 P2 P3 P4 P5) := U08.out.next B8A.out
    have U1A : Hid (RowIV wA u1 m P0 P1 P2 P3 P4 P5) := U18.out.next B8A.out
    have XA : Hid (RowI wA w3.heap.size n0 O D A B C X) := X8.out.next B8A.out
    have YA : Hid (Own wA qo n1 (fun i => .int .i64 (f1 i))) := Y8.out.next B8A.out
    have B0A : Hid (Below w.heap.size w wA) := B08.out.trans (B8A.out.mono B08.out.size)
    have h14 := markI XA.out n0 hn
    have H30 : Hid (∀ v, Own v qo n1 (fun i => .int .i64 (f1 i)) → Calls Tryd.prog 30 #[.slice (some ⟨qo, 0, none⟩) n1 n1, .int .i64 ((1 + 6 * n0 : Nat) : Int)] v fun r w' => r = .returned (.int .i64 ((1 + 6 * n0 + n1 : Nat) : Int)) ∧ Own w' qo n1 (fun i => .int .i64 (((1 + 6 * n0 + i : Nat) : Int))) ∧ Only qo v w') := fun v o => markN o n1 (1 + 6 * n0) hn1 (by omega)
    have kk : ¬ ((1 + 6 * n0 + n1 : Nat) : Int) < 0 := by omega
    generalize ((1 + 6 * n0 + n1 : Nat) : Int) = ky at H30 kk
    generalize ((1 + 6 * n0 : Nat) : Int) = kz at h14 H30
    clear U08 U18 X8 Y8 B08 BA B9 Y9 B8A XA
    go_wp2_with (first | (go_at_call 14; refine h14.mono ?_; rintro e wB ⟨rfl, XB, KB⟩; (have YB : Own wB qo n1 (fun i => .int .i64 (f1 i)) := YA.out.but KB (by have := HQ.out; omega))) | (go_at_call 30; refine (H30.out wB YB).mono ?_; rintro e wC ⟨rfl, YC, KC⟩))
    have GB : wA.grownBy wB (some w3.heap.size) := ⟨KB.os, KB.tape, KB.output, KB.size, fun k hk hne => KB.block k hk (fun e => hne (by rw [e]))⟩
    have GC : wB.grownBy wC (some qo) := ⟨KC.os, KC.tape, KC.output, KC.size, fun k hk hne => KC.block k hk (fun e => hne (by rw [e]))⟩
    have U09 : Hid (RowIV wC u0 m P0 P1 P2 P3 P4 P5) := (U0A.out.grown GB (by
      cases e : u0.ownBlock with
      | none => exact Or.inl rfl
      | some g => right; intro q; injection q with q; have := HV0.out g e; omega)).grown GC (by
      cases e : u0.ownBlock with
      | none => exact Or.inl rfl
      | some g => right; intro q; injection q with q; have := HV0.out g e; have := HQ.out; omega)
    have U19 : Hid (RowIV wC u1 m P0 P1 P2 P3 P4 P5) := (U1A.out.grown GB (by
      cases e : u1.ownBlock with
      | none => exact Or.inl rfl
      | some g => right; intro q; injection q with q; have := HV1.out g e; have := HQ.out; omega)).grown GC (by
      cases e : u1.ownBlock with
      | none => exact Or.inl rfl
      | some g => right; intro q; injection q with q; have := HV1.out g e; omega)
    have B0B : Below w.heap.size w wB := B0A.out.trans (KB.below B03.out.size B0A.out.size)
    have B09 : Hid (Below w.heap.size w wC) := B0B.trans (KC.below (by have := B03.out.size; have := HQ.out; omega) B0B.size)
    clear XB KB GB h14 U0A U1A B0A YA YB YC KC GC B0B
    go_wp2_with (go_at_call 13; refine (eqRowIV U19.out U09.out HMm.out).mono ?_; rintro e w10 ⟨rfl, B10⟩)
    have h15 := markIV (U19.out.next B10) HMm.out
    have U010 : Hid (RowIV w10 u0 m P0 P1 P2 P3 P4 P5) := U09.out.next B10
    have B010 : Hid (Below w.heap.size w w10) := B09.out.trans (B10.mono B09.out.size)
    have H16 : Hid (∀ v, RowIV v u1 m mkI0 mkI1 mkI2 mkI3 mkI4 mkI5 → Calls Tryd.prog 15 #[u1, .int .i64 1] v fun r w' => r = .returned (.int .i64 ((1 + 6 * m : Nat) : Int)) ∧ Below v.heap.size v w') := fun v U => heldIV U HMm.out
    have qq : ¬ ((1 + 6 * m : Nat) : Int) < 0 := by omega
    generalize ((1 + 6 * m : Nat) : Int) = qz at h15 H16 qq
    clear B10 U09 U19 B09
    go_wp2_with (first | (go_at_call 14; refine h15.mono ?_; rintro e w11 ⟨rfl, M11, K11⟩) | (go_at_call 15; refine (H16.out w11 M11).mono ?_; rintro e w12 ⟨rfl, B12⟩))
    have U011 : Hid (RowIV w11 u0 m P0 P1 P2 P3 P4 P5) := U010.out.grown K11 (by
      cases e : u0.ownBlock with
      | none => exact Or.inl rfl
      | some g => right; intro q; have h1 := HV0.out g e; have h2 := HV1.out g q.symm; have := HQ.out; omega)
    have B011 : Hid (Below w.heap.size w w11) := B010.out.grown K11 B010.out.size (fun k hk => by have := HV1.out k hk; have := B03.out.size; have := HQ.out; omega)
    have U012 : Hid (RowIV w12 u0 m P0 P1 P2 P3 P4 P5) := U011.out.next B12
    have M12 : Hid (RowIV w12 u1 m mkI0 mkI1 mkI2 mkI3 mkI4 mkI5) := M11.next B12
    have B012 : Hid (Below w.heap.size w w12) := B011.out.trans (B12.mono B011.out.size)
    clear K11 h15 U010 B010 U011 B011 M11 B12
    go_wp2_with (first | (go_at_call 11; refine (HT.out w12 B012.out hn).mono ?_; rintro e w13 ⟨rfl, X13, B13⟩) | (go_at_call 27; refine (HI.out w13 (B012.out.trans (B13.mono B012.out.size))).mono ?_; rintro e w13b ⟨rfl, Y13, C13⟩) | (go_at_call 28; refine (H18.out w12.heap.size w13.heap.size w13b (HF.out _ (B012.out.trans ((B13.trans (C13.mono B13.size)).mono B012.out.size))) (X13.next C13) Y13 hn).mono ?_; rintro e w14 ⟨u2, rfl, ⟨U2, _⟩, B14⟩))
    have B1213 : Below w12.heap.size w12 w13b := B13.trans (C13.mono B13.size)
    have B1114 : Hid (Below w12.heap.size w12 w14) := B1213.trans (B14.mono B1213.size)
    have U014 : Hid (RowIV w14 u0 m P0 P1 P2 P3 P4 P5) := U012.out.next B1114.out
    have M14 : Hid (RowIV w14 u1 m mkI0 mkI1 mkI2 mkI3 mkI4 mkI5) := M12.out.next B1114.out
    have U214 : Hid (RowIV w14 u2 m P0 P1 P2 P3 P4 P5) := U2
    have B014 : Hid (Below w.heap.size w w14) := B012.out.trans (B1114.out.mono B012.out.size)
    clear U2 X13 B13 B14 M12 U012 B012 B1114 Y13 C13 B1213
    go_wp2_with (first | (go_at_call 13; refine (eqRowIV U214.out U014.out HMm.out).mono ?_; rintro e w15 ⟨rfl, B15⟩) | (go_at_call 15; refine (H16.out w15 (M14.out.next B15)).mono ?_; rintro e w16 ⟨rfl, B16⟩))
    go_ret
    have B015 := B014.out.trans (B15.mono B014.out.size)
    exact ⟨rfl, B015.trans (B16.mono B015.size)⟩
end Go.Proofs.YtcgapochcahknaaDoor
