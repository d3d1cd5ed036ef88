/- Stretches of code, told without a program; and the memory in which they are made. -/
import Derived.Test.YtcgapochcahknaaDoorMvb
import Derived.Test.YtcgapochcahknaaDoorArs
import Derived.Test.YtcgapochcahknaaDoorSch
import Derived.Test.YtcgapochcahknaaDoorIss
import Derived.Deep.AppendLies
namespace Go.Proofs.YtcgapochcahknaaDoor
open Go.ChangeShapes Go.WideShapes Go.ChangeAt Go.RowKit
set_option linter.unusedVariables false
/-- Stretches: how many, the first and the last number of each. -/
structure Sb where
  m : Nat
  f : Nat → Nat
  l : Nat → Nat
/-- Of the first k instructions. -/
def Cd.bS (c : Cd) : Nat → Sb
  | 0 => ⟨0, fun _ => 0, fun _ => 0⟩
  | k + 1 => if cutO (c.O k) then c.bS k else if 0 < (c.bS k).m ∧ (c.bS k).l ((c.bS k).m - 1) + 1 = k ∧ c.bg k = false ∧ k - (c.bS k).f ((c.bS k).m - 1) < 64 then ⟨(c.bS k).m, (c.bS k).f, upN (c.bS k).l ((c.bS k).m - 1) k⟩ else ⟨(c.bS k).m + 1, upN (c.bS k).f (c.bS k).m k, upN (c.bS k).l (c.bS k).m k⟩
theorem bg_zero (c : Cd) : c.bg 0 = true := by
  have : ∀ i, bgF c.O c.A c.B c.C i 0 = true := fun i => by
    induction i with
    | zero => rfl
    | succ i ih => rw [bgF, ih]; rfl
  exact this _
theorem bg_cut (c : Cd) (k : Nat) (hk : k < c.n) (h : cutO (c.O k) = true) : c.bg (k + 1) = true := by
  have : ∀ i, k < i → bgF c.O c.A c.B c.C i (k + 1) = true := fun i => by
    induction i with
    | zero => intro h; omega
    | succ i ih =>
      intro hi
      rw [bgF]
      by_cases e : k = i
      · subst e; rw [h]; simp
      · rw [ih (by omega)]; rfl
  exact this _ hk
/-- What holds of them. -/
structure Cd.BI (c : Cd) (k : Nat) : Prop where
  m : (c.bS k).m ≤ k
  la : 0 < (c.bS k).m → (c.bS k).f ((c.bS k).m - 1) ≤ (c.bS k).l ((c.bS k).m - 1) ∧ (c.bS k).l ((c.bS k).m - 1) < k ∧ (c.bS k).l ((c.bS k).m - 1) - (c.bS k).f ((c.bS k).m - 1) ≤ 63
  pr : 0 < k → cutO (c.O (k - 1)) = false → 0 < (c.bS k).m ∧ (c.bS k).l ((c.bS k).m - 1) + 1 = k
theorem Cd.bi (c : Cd) : ∀ k, c.BI k
  | 0 => ⟨Nat.le_refl _, fun h => absurd h (Nat.lt_irrefl _), fun h => absurd h (Nat.lt_irrefl _)⟩
  | k + 1 => by
    have ih := c.bi k
    cases hc : cutO (c.O k)
    · by_cases e : 0 < (c.bS k).m ∧ (c.bS k).l ((c.bS k).m - 1) + 1 = k ∧ c.bg k = false ∧ k - (c.bS k).f ((c.bS k).m - 1) < 64
      · have hb : c.bS (k + 1) = ⟨(c.bS k).m, (c.bS k).f, upN (c.bS k).l ((c.bS k).m - 1) k⟩ := by rw [Cd.bS, hc, if_neg (by decide), if_pos e]
        refine ⟨?_, fun h => ?_, fun _ _ => ?_⟩
        · rw [hb]; have := ih.m; show (c.bS k).m ≤ _; omega
        · rw [hb]
          show (c.bS k).f ((c.bS k).m - 1) ≤ upN (c.bS k).l ((c.bS k).m - 1) k ((c.bS k).m - 1) ∧ upN (c.bS k).l ((c.bS k).m - 1) k ((c.bS k).m - 1) < k + 1 ∧ upN (c.bS k).l ((c.bS k).m - 1) k ((c.bS k).m - 1) - (c.bS k).f ((c.bS k).m - 1) ≤ 63
          rw [upN_at]
          have := ih.la e.1
          omega
        · rw [hb]
          refine ⟨e.1, ?_⟩
          show upN _ _ _ _ + 1 = _
          rw [upN_at]
      · have hb : c.bS (k + 1) = ⟨(c.bS k).m + 1, upN (c.bS k).f (c.bS k).m k, upN (c.bS k).l (c.bS k).m k⟩ := by rw [Cd.bS, hc, if_neg (by decide), if_neg e]
        refine ⟨?_, fun h => ?_, fun _ _ => ?_⟩
        · rw [hb]; have := ih.m; show (c.bS k).m + 1 ≤ _; omega
        · rw [hb]
          show upN _ _ _ ((c.bS k).m + 1 - 1) ≤ upN _ _ _ ((c.bS k).m + 1 - 1) ∧ upN _ _ _ ((c.bS k).m + 1 - 1) < _ ∧ upN _ _ _ ((c.bS k).m + 1 - 1) - upN _ _ _ ((c.bS k).m + 1 - 1) ≤ 63
          rw [Nat.add_sub_cancel, upN_at, upN_at]
          omega
        · rw [hb]
          refine ⟨by show 0 < (c.bS k).m + 1; omega, ?_⟩
          show upN _ _ _ ((c.bS k).m + 1 - 1) + 1 = _
          rw [Nat.add_sub_cancel, upN_at]
    · have hb : c.bS (k + 1) = c.bS k := by rw [Cd.bS, hc, if_pos rfl]
      refine ⟨?_, fun h => ?_, fun _ h => ?_⟩
      · rw [hb]; have := ih.m; omega
      · rw [hb] at h ⊢
        have := ih.la h
        omega
      · rw [Nat.add_sub_cancel, hc] at h
        exact absurd h (by decide)
theorem Cd.bS_cut (c : Cd) {k : Nat} (h : cutO (c.O k) = true) : c.bS (k + 1) = c.bS k := by rw [Cd.bS, h, if_pos rfl]
theorem Cd.bS_ext (c : Cd) {k m1 : Nat} {f l : Nat → Nat} (h : cutO (c.O k) = false) (hs : c.bS k = ⟨m1 + 1, f, l⟩) (h1 : l m1 + 1 = k) (h2 : c.bg k = false) (h3 : k - f m1 < 64) : c.bS (k + 1) = ⟨m1 + 1, f, upN l m1 k⟩ := by
  rw [Cd.bS, h, if_neg (by decide), hs, if_pos ⟨by show 0 < m1 + 1; omega, h1, h2, h3⟩]
  rfl
theorem Cd.bS_new0 (c : Cd) {k : Nat} {f l : Nat → Nat} (h : cutO (c.O k) = false) (hs : c.bS k = ⟨0, f, l⟩) : c.bS (k + 1) = ⟨1, upN f 0 k, upN l 0 k⟩ := by
  rw [Cd.bS, h, if_neg (by decide), hs, if_neg (fun q => absurd q.1 (Nat.lt_irrefl _))]
theorem Cd.bS_new (c : Cd) {k m1 : Nat} {f l : Nat → Nat} (h : cutO (c.O k) = false) (hs : c.bS k = ⟨m1 + 1, f, l⟩) (hn : ¬ (l m1 + 1 = k ∧ c.bg k = false ∧ k - f m1 < 64)) : c.bS (k + 1) = ⟨m1 + 2, upN f (m1 + 1) k, upN l (m1 + 1) k⟩ := by
  rw [Cd.bS, h, if_neg (by decide), hs, if_neg (fun q => hn q.2)]
/-- Two numbers in a block. -/
def prV (a b : Nat) : Nat → Value := fun i => .int .i64 ((if i = 0 then a else b : Nat) : Int)
def vlP (p : Nat → Nat) (m : Nat) : List Value := (List.range m).map fun i => .slice (some ⟨p i, 0, none⟩) 2 2
theorem vlP_len (p : Nat → Nat) (m : Nat) : (vlP p m).length = m := by simp [vlP]
theorem vlP_at (p : Nat → Nat) {m i : Nat} (h : i < m) : (vlP p m)[i]? = some (.slice (some ⟨p i, 0, none⟩) 2 2) := by simp [vlP, h]
theorem vlP_succ (p : Nat → Nat) (m b : Nat) : vlP p m ++ [.slice (some ⟨b, 0, none⟩) 2 2] = vlP (upN p m b) (m + 1) := by
  unfold vlP
  rw [List.range_succ, List.map_append]
  congr 1
  · refine List.map_congr_left fun i hi => ?_
    rw [upN_ne _ _ (by have := List.mem_range.1 hi; omega)]
  · simp [upN_at]
/-- Stretches in the making: each in a block of its own. -/
structure Bm (B : Nat) (w : World) (u : Value) (s : Sb) (p : Nat → Nat) : Prop where
  own : w.ownsRow B 45 1 u s.m (vlP p s.m)
  row : ∀ i, i < s.m → Own w (p i) 2 (prV (s.f i) (s.l i))
  lo : ∀ i, i < s.m → B ≤ p i
  ne : ∀ i, i < s.m → u.ownBlock ≠ some (p i)
  inj : ∀ i j, i < s.m → j < s.m → p i = p j → i = j
  hs : B ≤ w.heap.size
  z : s.m = 0 → u = .slice none 0 0
theorem Bm.next {B : Nat} {w w' : World} {u : Value} {s : Sb} {p : Nat → Nat} (h : Bm B w u s p) (b : Below w.heap.size w w') : Bm B w' u s p :=
  ⟨h.own.kept (row := none) ⟨b.os, b.tape, b.output, b.size, fun i hi _ => b.block i hi⟩ (by cases e : u.ownBlock <;> simp), fun i hi => (h.row i hi).next b, h.lo, h.ne, h.inj, Nat.le_trans h.hs b.size, h.z⟩
theorem bm_nil (w : World) : Bm w.heap.size w (.slice none 0 0) ⟨0, fun _ => 0, fun _ => 0⟩ (fun _ => 0) :=
  ⟨World.ownsRow_nil _ _ _ _, fun i hi => absurd hi (Nat.not_lt_zero _), fun i hi => absurd hi (Nat.not_lt_zero _), fun i hi => absurd hi (Nat.not_lt_zero _), fun i j hi => absurd hi (Nat.not_lt_zero _), Nat.le_refl _, fun _ => rfl⟩
theorem Bm.at {B : Nat} {w : World} {u : Value} {m1 : Nat} {f l p : Nat → Nat} (h : Bm B w u ⟨m1 + 1, f, l⟩ p) : ∃ g cp, u = .slice (some ⟨g, 0, none⟩) (m1 + 1) cp ∧ B ≤ g ∧ g < w.heap.size ∧ (∀ i, i < m1 + 1 → w.cell? ⟨g, i, none⟩ = some (.slice (some ⟨p i, 0, none⟩) 2 2)) ∧ ∀ i, w.frozen? ⟨g, i, none⟩ = false := by
  have hw := h.own
  rcases h.own.2 with ⟨_, h2⟩ | ⟨g, c, cur, h1, h2, h3, h4, h5, h6, h7⟩
  · exact absurd h2 (by show m1 + 1 ≠ 0; omega)
  · refine ⟨g, c, h1, h2, (hw.lt g (by rw [h1]; rfl)).2, fun i hi => ?_, fun i => ?_⟩
    · subst h1
      rw [World.ownsRow.cellAt hw i (by show i < (m1 + 1) * 1; omega)]
      exact vlP_at p hi
    · simp [World.frozen?, h3]
/-- The last one is made longer. -/
theorem Bm.set {B : Nat} {w : World} {u : Value} {m1 : Nat} {f l p : Nat → Nat} (h : Bm B w u ⟨m1 + 1, f, l⟩ p) (k : Nat) : Bm B (w.setCell ⟨p m1, 1, none⟩ (.int .i64 (k : Int))) u ⟨m1 + 1, f, upN l m1 k⟩ p := by
  have on : Only (p m1) w (w.setCell ⟨p m1, 1, none⟩ (.int .i64 (k : Int))) := (Only.refl _ _).setCell _ _
  refine ⟨h.own.kept (row := some (p m1)) ⟨on.os, on.tape, on.output, on.size, fun i hi hn => on.block i hi (fun e => hn (by rw [e]))⟩ (Or.inr (h.ne m1 (by show m1 < m1 + 1; omega))), fun i hi => ?_, h.lo, h.ne, h.inj, Nat.le_trans h.hs on.size, fun e => absurd e (Nat.succ_ne_zero m1)⟩
  by_cases e : i = m1
  · subst e
    refine (h.row i hi).set 1 _ (by omega) (fun j hj => ?_)
    show prV (f i) (upN l i k i) j = _
    unfold prV
    rw [upN_at]
    by_cases q : j = 1
    · subst q; rfl
    · obtain rfl : j = 0 := by omega
      rfl
  · have := (h.row i hi).but on (fun q => e (h.inj i m1 hi (by show m1 < m1 + 1; omega) q))
    show Own _ _ 2 (prV (f i) (upN l m1 k i))
    rw [upN_ne _ _ e]
    exact this
/-- One more. -/
theorem Bm.push {B : Nat} {w : World} {u : Value} {m : Nat} {f l p : Nat → Nat} (h : Bm B w u ⟨m, f, l⟩ p) (k : Nat) {w3 : World} {g3 cp3 : Nat}
    (hown : w3.ownsRow B 45 1 (.slice (some ⟨g3, 0, none⟩) (m + 1) cp3) (m + 1) (vlP p m ++ [.slice (some ⟨w.heap.size, 0, none⟩) 2 2]))
    (hg : ((w.alloc (.cells #[.int .i64 (k : Int), .int .i64 (k : Int)] 3)).alloc (.cells #[.slice (some ⟨w.heap.size, 0, none⟩) 2 2] 45)).grownBy w3 u.ownBlock)
    (hat : u.ownBlock = some g3 ∨ g3 = w.heap.size + 2) : Bm B w3 (.slice (some ⟨g3, 0, none⟩) (m + 1) cp3) ⟨m + 1, upN f m k, upN l m k⟩ (upN p m w.heap.size) := by
  have b2 : Below w.heap.size w ((w.alloc (.cells #[.int .i64 (k : Int), .int .i64 (k : Int)] 3)).alloc (.cells #[.slice (some ⟨w.heap.size, 0, none⟩) 2 2] 45)) := ((Below.refl _ _).alloc (Nat.le_refl _) _).alloc (by simp) _
  have hu : ∀ g, u.ownBlock = some g → g < w.heap.size := fun g hq => (h.own.lt g hq).2
  have z2 : ((w.alloc (.cells #[.int .i64 (k : Int), .int .i64 (k : Int)] 3)).alloc (.cells #[.slice (some ⟨w.heap.size, 0, none⟩) 2 2] 45)).heap.size = w.heap.size + 2 := by simp
  have zs := hg.size
  rw [z2] at zs
  have gr : ∀ (o n : Nat) (F : Nat → Value), Own ((w.alloc (.cells #[.int .i64 (k : Int), .int .i64 (k : Int)] 3)).alloc (.cells #[.slice (some ⟨w.heap.size, 0, none⟩) 2 2] 45)) o n F → some o ≠ u.ownBlock → Own w3 o n F := fun o n F hO hn => by
    have z := hg.block o hO.hi hn
    exact ⟨fun i hi => (World.cell?_of_block (a := ⟨o, i, none⟩) z).trans (hO.cell i hi), fun i => (World.frozen?_of_block (a := ⟨o, i, none⟩) z).trans (hO.free i), Nat.lt_of_lt_of_le hO.hi hg.size⟩
  have hne : ∀ i, i < m → p i < w.heap.size := fun i hi => (h.row i hi).hi
  refine ⟨by rw [← vlP_succ]; exact hown, fun i hi => ?_, fun i hi => ?_, fun i hi => ?_, fun i j hi hj e => ?_, Nat.le_trans h.hs (by omega), fun e => absurd e (Nat.succ_ne_zero m)⟩
  · show Own w3 (upN p m w.heap.size i) 2 (prV (upN f m k i) (upN l m k i))
    by_cases e : i = m
    · subst e
      rw [upN_at, upN_at, upN_at]
      refine gr _ _ _ ⟨fun j hj => ?_, fun j => ?_, by rw [z2]; omega⟩ (fun q => by have := hu _ q.symm; omega)
      · unfold prV
        match j, hj with
        | 0, _ => simp
        | 1, _ => simp
      · simp
    · have hi' : i < m := by have : i < m + 1 := hi; omega
      rw [upN_ne _ _ e, upN_ne _ _ e, upN_ne _ _ e]
      exact gr _ _ _ ((h.row i hi').next b2) (fun q => h.ne i hi' q.symm)
  · show B ≤ upN p m w.heap.size i
    by_cases e : i = m
    · subst e; rw [upN_at]; exact h.hs
    · rw [upN_ne _ _ e]; exact h.lo i (show i < m by have : i < m + 1 := hi; omega)
  · show some g3 ≠ some (upN p m w.heap.size i)
    intro q
    injection q with q
    by_cases e : i = m
    · subst e
      rw [upN_at] at q
      rcases hat with r | r
      · have := hu _ r; omega
      · omega
    · have hi' : i < m := by have : i < m + 1 := hi; omega
      rw [upN_ne _ _ e] at q
      rcases hat with r | r
      · exact h.ne i hi' (by rw [r, q])
      · have := hne i hi'; omega
  · have e' : upN p m w.heap.size i = upN p m w.heap.size j := e
    have hi2 : i < m + 1 := hi
    have hj2 : j < m + 1 := hj
    by_cases q1 : i = m
    · by_cases q2 : j = m
      · omega
      · subst q1
        rw [upN_at, upN_ne _ _ q2] at e'
        have := hne j (by omega)
        omega
    · by_cases q2 : j = m
      · subst q2
        rw [upN_at, upN_ne _ _ q1] at e'
        have := hne i (by omega)
        omega
      · rw [upN_ne _ _ q1, upN_ne _ _ q2] at e'
        exact h.inj i j (show i < m by omega) (show j < m by omega) e'
theorem Bm.lower {B B' : Nat} {w : World} {u : Value} {s : Sb} {p : Nat → Nat} (h : Bm B w u s p) (hb : B' ≤ B) : Bm B' w u s p :=
  ⟨⟨h.own.1, h.own.2.imp id (fun ⟨g, cp, cur, h1, h2, h3⟩ => ⟨g, cp, cur, h1, Nat.le_trans hb h2, h3⟩)⟩, h.row, fun i hi => Nat.le_trans hb (h.lo i hi), h.ne, h.inj, Nat.le_trans hb h.hs, h.z⟩
/-- What is answered. -/
def Sb.ls (s : Sb) (i : Nat) : List Int := [(s.f i : Int), (s.l i : Int)]
theorem Bm.ans {B : Nat} {w : World} {u : Value} {s : Sb} {p : Nat → Nat} (h : Bm B w u s p) : Ans B w u s.m s.ls := by
  obtain ⟨m, f, l⟩ := s
  rcases h.own.2 with ⟨h1, h2⟩ | ⟨g, c, cur, h1, h2, h3, h4, h5, h6, h7⟩
  · have h2 : m = 0 := h2
    subst h2
    exact ⟨none, 0, fun _ => 0, fun _ => 0, h1, ⟨fun x hx => absurd hx (Nat.not_lt_zero _), fun x i hx => absurd hx (Nat.not_lt_zero _), fun x i hx => absurd hx (Nat.not_lt_zero _), fun x y i j hx => absurd hx (Nat.not_lt_zero _), fun x i hx => absurd hx (Nat.not_lt_zero _)⟩⟩
  · have hw := h.own
    refine ⟨some ⟨g, 0, none⟩, c, p, fun _ => 0, h1, ⟨fun x hx => ⟨g, rfl, h2, ⟨some ⟨p x, 0, none⟩, 2, ?_, fun _ => rfl⟩, fun y i hy hi => ?_⟩, fun x i hx hi => ?_, fun x i hx hi => (h.row x hx).free _, fun x y i j hx hy hi hj e1 e2 => h.inj x y hx hy e1, fun x i hx hi => h.lo x hx⟩⟩
    · subst h1
      rw [World.ownsRow.cellAt hw x (by show x < m * 1; have : x < m := hx; omega)]
      exact vlP_at p hx
    · intro e
      have := h.ne y hy
      rw [h1] at this
      exact this (by rw [e]; rfl)
    · have hi : i < 2 := hi
      show w.cell? ⟨p x, 0 + i, none⟩ = _
      rw [Nat.zero_add, (h.row x hx).cell i hi]
      match i, hi with
      | 0, _ => rfl
      | 1, _ => rfl
end Go.Proofs.YtcgapochcahknaaDoor
