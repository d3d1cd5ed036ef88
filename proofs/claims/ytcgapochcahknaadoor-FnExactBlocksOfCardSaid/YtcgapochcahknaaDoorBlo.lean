/- Stretches of code, told without a program; and the memory in which they are made. l14Blocks, stretches and BlocksOf of both sides. BlocksOf of both sides. -/
import Derived.Test.YtcgapochcahknaaDoorMvb
import Derived.Test.YtcgapochcahknaaDoorArs
import Derived.Test.YtcgapochcahknaaDoorSch
import Derived.Test.YtcgapochcahknaaDoorIss
import Derived.Deep.AppendLies
import Derived.Test.YtcgapochcahknaaDoorGd
namespace Go.Proofs.YtcgapochcahknaaDoor
open Go.ChangeShapes Go.WideShapes Go.ChangeAt Go.RowKit
set_option linter.unusedVariables false
/-- Stretches: how many, the first and the last number of each. -/
structure Sb where
  m : Nat
  f : Nat → Nat
  l : Nat → Nat
/-- Of the first k instructions. -/
def Cd.bS (c : Cd) : Nat → Sb
  | 0 => ⟨0, fun _ => 0, fun _ => 0⟩
  | k + 1 => if cutO (c.O k) then c.bS k else if 0 < (c.bS k).m ∧ (c.bS k).l ((c.bS k).m - 1) + 1 = k ∧ c.bg k = false ∧ k - (c.bS k).f ((c.bS k).m - 1) < 64 then ⟨(c.bS k).m, (c.bS k).f, upN (c.bS k).l ((c.bS k).m - 1) k⟩ else ⟨(c.bS k).m + 1, upN (c.bS k).f (c.bS k).m k, upN (c.bS k).l (c.bS k).m k⟩
theorem bg_zero (c : Cd) : c.bg 0 = true := by
  have : ∀ i, bgF c.O c.A c.B c.C i 0 = true := fun i => by
    induction i with
    | zero => rfl
    | succ i ih => rw [bgF, ih]; rfl
  exact this _
theorem bg_cut (c : Cd) (k : Nat) (hk : k < c.n) (h : cutO (c.O k) = true) : c.bg (k + 1) = true := by
  have : ∀ i, k < i → bgF c.O c.A c.B c.C i (k + 1) = true := fun i => by
    induction i with
    | zero => intro h; omega
    | succ i ih =>
      intro hi
      rw [bgF]
      by_cases e : k = i
      · subst e; rw [h]; simp
      · rw [ih (by omega)]; rfl
  exact this _ hk
/-- What holds of them. -/
structure Cd.BI (c : Cd) (k : Nat) : Prop where
  m : (c.bS k).m ≤ k
  la : 0 < (c.bS k).m → (c.bS k).f ((c.bS k).m - 1) ≤ (c.bS k).l ((c.bS k).m - 1) ∧ (c.bS k).l ((c.bS k).m - 1) < k ∧ (c.bS k).l ((c.bS k).m - 1) - (c.bS k).f ((c.bS k).m - 1) ≤ 63
  pr : 0 < k → cutO (c.O (k - 1)) = false → 0 < (c.bS k).m ∧ (c.bS k).l ((c.bS k).m - 1) + 1 = k
theorem Cd.bi (c : Cd) : ∀ k, c.BI k
  | 0 => ⟨Nat.le_refl _, fun h => absurd h (Nat.lt_irrefl _), fun h => absurd h (Nat.lt_irrefl _)⟩
  | k + 1 => by
    have ih := c.bi k
    cases hc : cutO (c.O k)
    · by_cases e : 0 < (c.bS k).m ∧ (c.bS k).l ((c.bS k).m - 1) + 1 = k ∧ c.bg k = false ∧ k - (c.bS k).f ((c.bS k).m - 1) < 64
      · have hb : c.bS (k + 1) = ⟨(c.bS k).m, (c.bS k).f, upN (c.bS k).l ((c.bS k).m - 1) k⟩ := by rw [Cd.bS, hc, if_neg (by decide), if_pos e]
        refine ⟨?_, fun h => ?_, fun _ _ => ?_⟩
        · rw [hb]; have := ih.m; show (c.bS k).m ≤ _; omega
        · rw [hb]
          show (c.bS k).f ((c.bS k).m - 1) ≤ upN (c.bS k).l ((c.bS k).m - 1) k ((c.bS k).m - 1) ∧ upN (c.bS k).l ((c.bS k).m - 1) k ((c.bS k).m - 1) < k + 1 ∧ upN (c.bS k).l ((c.bS k).m - 1) k ((c.bS k).m - 1) - (c.bS k).f ((c.bS k).m - 1) ≤ 63
          rw [upN_at]
          have := ih.la e.1
          omega
        · rw [hb]
          refine ⟨e.1, ?_⟩
          show upN _ _ _ _ + 1 = _
          rw [upN_at]
      · have hb : c.bS (k + 1) = ⟨(c.bS k).m + 1, upN (c.bS k).f (c.bS k).m k, upN (c.bS k).l (c.bS k).m k⟩ := by rw [Cd.bS, hc, if_neg (by decide), if_neg e]
        refine ⟨?_, fun h => ?_, fun _ _ => ?_⟩
        · rw [hb]; have := ih.m; show (c.bS k).m + 1 ≤ _; omega
        · rw [hb]
          show upN _ _ _ ((c.bS k).m + 1 - 1) ≤ upN _ _ _ ((c.bS k).m + 1 - 1) ∧ upN _ _ _ ((c.bS k).m + 1 - 1) < _ ∧ upN _ _ _ ((c.bS k).m + 1 - 1) - upN _ _ _ ((c.bS k).m + 1 - 1) ≤ 63
          rw [Nat.add_sub_cancel, upN_at, upN_at]
          omega
        · rw [hb]
          refine ⟨by show 0 < (c.bS k).m + 1; omega, ?_⟩
          show upN _ _ _ ((c.bS k).m + 1 - 1) + 1 = _
          rw [Nat.add_sub_cancel, upN_at]
    · have hb : c.bS (k + 1) = c.bS k := by rw [Cd.bS, hc, if_pos rfl]
      refine ⟨?_, fun h => ?_, fun _ h => ?_⟩
      · rw [hb]; have := ih.m; omega
      · rw [hb] at h ⊢
        have := ih.la h
        omega
      · rw [Nat.add_sub_cancel, hc] at h
        exact absurd h (by decide)
theorem Cd.bS_cut (c : Cd) {k : Nat} (h : cutO (c.O k) = true) : c.bS (k + 1) = c.bS k := by rw [Cd.bS, h, if_pos rfl]
theorem Cd.bS_ext (c : Cd) {k m1 : Nat} {f l : Nat → Nat} (h : cutO (c.O k) = false) (hs : c.bS k = ⟨m1 + 1, f, l⟩) (h1 : l m1 + 1 = k) (h2 : c.bg k = false) (h3 : k - f m1 < 64) : c.bS (k + 1) = ⟨m1 + 1, f, upN l m1 k⟩ := by
  rw [Cd.bS, h, if_neg (by decide), hs, if_pos ⟨by show 0 < m1 + 1; omega, h1, h2, h3⟩]
  rfl
theorem Cd.bS_new0 (c : Cd) {k : Nat} {f l : Nat → Nat} (h : cutO (c.O k) = false) (hs : c.bS k = ⟨0, f, l⟩) : c.bS (k + 1) = ⟨1, upN f 0 k, upN l 0 k⟩ := by
  rw [Cd.bS, h, if_neg (by decide), hs, if_neg (fun q => absurd q.1 (Nat.lt_irrefl _))]
theorem Cd.bS_new (c : Cd) {k m1 : Nat} {f l : Nat → Nat} (h : cutO (c.O k) = false) (hs : c.bS k = ⟨m1 + 1, f, l⟩) (hn : ¬ (l m1 + 1 = k ∧ c.bg k = false ∧ k - f m1 < 64)) : c.bS (k + 1) = ⟨m1 + 2, upN f (m1 + 1) k, upN l (m1 + 1) k⟩ := by
  rw [Cd.bS, h, if_neg (by decide), hs, if_neg (fun q => hn q.2)]
/-- Two numbers in a block. -/
def prV (a b : Nat) : Nat → Value := fun i => .int .i64 ((if i = 0 then a else b : Nat) : Int)
def vlP (p : Nat → Nat) (m : Nat) : List Value := (List.range m).map fun i => .slice (some ⟨p i, 0, none⟩) 2 2
theorem vlP_len (p : Nat → Nat) (m : Nat) : (vlP p m).length = m := by simp [vlP]
theorem vlP_at (p : Nat → Nat) {m i : Nat} (h : i < m) : (vlP p m)[i]? = some (.slice (some ⟨p i, 0, none⟩) 2 2) := by simp [vlP, h]
theorem vlP_succ (p : Nat → Nat) (m b : Nat) : vlP p m ++ [.slice (some ⟨b, 0, none⟩) 2 2] = vlP (upN p m b) (m + 1) := by
  unfold vlP
  rw [List.range_succ, List.map_append]
  congr 1
  · refine List.map_congr_left fun i hi => ?_
    rw [upN_ne _ _ (by have := List.mem_range.1 hi; omega)]
  · simp [upN_at]
/-- Stretches in the making: each in a block of its own. -/
structure Bm (B : Nat) (w : World) (u : Value) (s : Sb) (p : Nat → Nat) : Prop where
  own : w.ownsRow B 45 1 u s.m (vlP p s.m)
  row : ∀ i, i < s.m → Own w (p i) 2 (prV (s.f i) (s.l i))
  lo : ∀ i, i < s.m → B ≤ p i
  ne : ∀ i, i < s.m → u.ownBlock ≠ some (p i)
  inj : ∀ i j, i < s.m → j < s.m → p i = p j → i = j
  hs : B ≤ w.heap.size
  z : s.m = 0 → u = .slice none 0 0
theorem Bm.next {B : Nat} {w w' : World} {u : Value} {s : Sb} {p : Nat → Nat} (h : Bm B w u s p) (b : Below w.heap.size w w') : Bm B w' u s p :=
  ⟨h.own.kept (row := none) ⟨b.os, b.tape, b.output, b.size, fun i hi _ => b.block i hi⟩ (by cases e : u.ownBlock <;> simp), fun i hi => (h.row i hi).next b, h.lo, h.ne, h.inj, Nat.le_trans h.hs b.size, h.z⟩
theorem bm_nil (w : World) : Bm w.heap.size w (.slice none 0 0) ⟨0, fun _ => 0, fun _ => 0⟩ (fun _ => 0) :=
  ⟨World.ownsRow_nil _ _ _ _, fun i hi => absurd hi (Nat.not_lt_zero _), fun i hi => absurd hi (Nat.not_lt_zero _), fun i hi => absurd hi (Nat.not_lt_zero _), fun i j hi => absurd hi (Nat.not_lt_zero _), Nat.le_refl _, fun _ => rfl⟩
theorem Bm.at {B : Nat} {w : World} {u : Value} {m1 : Nat} {f l p : Nat → Nat} (h : Bm B w u ⟨m1 + 1, f, l⟩ p) : ∃ g cp, u = .slice (some ⟨g, 0, none⟩) (m1 + 1) cp ∧ B ≤ g ∧ g < w.heap.size ∧ (∀ i, i < m1 + 1 → w.cell? ⟨g, i, none⟩ = some (.slice (some ⟨p i, 0, none⟩) 2 2)) ∧ ∀ i, w.frozen? ⟨g, i, none⟩ = false := by
  have hw := h.own
  rcases h.own.2 with ⟨_, h2⟩ | ⟨g, c, cur, h1, h2, h3, h4, h5, h6, h7⟩
  · exact absurd h2 (by show m1 + 1 ≠ 0; omega)
  · refine ⟨g, c, h1, h2, (hw.lt g (by rw [h1]; rfl)).2, fun i hi => ?_, fun i => ?_⟩
    · subst h1
      rw [World.ownsRow.cellAt hw i (by show i < (m1 + 1) * 1; omega)]
      exact vlP_at p hi
    · simp [World.frozen?, h3]
/-- The last one is made longer. -/
theorem Bm.set {B : Nat} {w : World} {u : Value} {m1 : Nat} {f l p : Nat → Nat} (h : Bm B w u ⟨m1 + 1, f, l⟩ p) (k : Nat) : Bm B (w.setCell ⟨p m1, 1, none⟩ (.int .i64 (k : Int))) u ⟨m1 + 1, f, upN l m1 k⟩ p := by
  have on : Only (p m1) w (w.setCell ⟨p m1, 1, none⟩ (.int .i64 (k : Int))) := (Only.refl _ _).setCell _ _
  refine ⟨h.own.kept (row := some (p m1)) ⟨on.os, on.tape, on.output, on.size, fun i hi hn => on.block i hi (fun e => hn (by rw [e]))⟩ (Or.inr (h.ne m1 (by show m1 < m1 + 1; omega))), fun i hi => ?_, h.lo, h.ne, h.inj, Nat.le_trans h.hs on.size, fun e => absurd e (Nat.succ_ne_zero m1)⟩
  by_cases e : i = m1
  · subst e
    refine (h.row i hi).set 1 _ (by omega) (fun j hj => ?_)
    show prV (f i) (upN l i k i) j = _
    unfold prV
    rw [upN_at]
    by_cases q : j = 1
    · subst q; rfl
    · obtain rfl : j = 0 := by omega
      rfl
  · have := (h.row i hi).but on (fun q => e (h.inj i m1 hi (by show m1 < m1 + 1; omega) q))
    show Own _ _ 2 (prV (f i) (upN l m1 k i))
    rw [upN_ne _ _ e]
    exact this
/-- One more. -/
theorem Bm.push {B : Nat} {w : World} {u : Value} {m : Nat} {f l p : Nat → Nat} (h : Bm B w u ⟨m, f, l⟩ p) (k : Nat) {w3 : World} {g3 cp3 : Nat}
    (hown : w3.ownsRow B 45 1 (.slice (some ⟨g3, 0, none⟩) (m + 1) cp3) (m + 1) (vlP p m ++ [.slice (some ⟨w.heap.size, 0, none⟩) 2 2]))
    (hg : ((w.alloc (.cells #[.int .i64 (k : Int), .int .i64 (k : Int)] 3)).alloc (.cells #[.slice (some ⟨w.heap.size, 0, none⟩) 2 2] 45)).grownBy w3 u.ownBlock)
    (hat : u.ownBlock = some g3 ∨ g3 = w.heap.size + 2) : Bm B w3 (.slice (some ⟨g3, 0, none⟩) (m + 1) cp3) ⟨m + 1, upN f m k, upN l m k⟩ (upN p m w.heap.size) := by
  have b2 : Below w.heap.size w ((w.alloc (.cells #[.int .i64 (k : Int), .int .i64 (k : Int)] 3)).alloc (.cells #[.slice (some ⟨w.heap.size, 0, none⟩) 2 2] 45)) := ((Below.refl _ _).alloc (Nat.le_refl _) _).alloc (by simp) _
  have hu : ∀ g, u.ownBlock = some g → g < w.heap.size := fun g hq => (h.own.lt g hq).2
  have z2 : ((w.alloc (.cells #[.int .i64 (k : Int), .int .i64 (k : Int)] 3)).alloc (.cells #[.slice (some ⟨w.heap.size, 0, none⟩) 2 2] 45)).heap.size = w.heap.size + 2 := by simp
  have zs := hg.size
  rw [z2] at zs
  have gr : ∀ (o n : Nat) (F : Nat → Value), Own ((w.alloc (.cells #[.int .i64 (k : Int), .int .i64 (k : Int)] 3)).alloc (.cells #[.slice (some ⟨w.heap.size, 0, none⟩) 2 2] 45)) o n F → some o ≠ u.ownBlock → Own w3 o n F := fun o n F hO hn => by
    have z := hg.block o hO.hi hn
    exact ⟨fun i hi => (World.cell?_of_block (a := ⟨o, i, none⟩) z).trans (hO.cell i hi), fun i => (World.frozen?_of_block (a := ⟨o, i, none⟩) z).trans (hO.free i), Nat.lt_of_lt_of_le hO.hi hg.size⟩
  have hne : ∀ i, i < m → p i < w.heap.size := fun i hi => (h.row i hi).hi
  refine ⟨by rw [← vlP_succ]; exact hown, fun i hi => ?_, fun i hi => ?_, fun i hi => ?_, fun i j hi hj e => ?_, Nat.le_trans h.hs (by omega), fun e => absurd e (Nat.succ_ne_zero m)⟩
  · show Own w3 (upN p m w.heap.size i) 2 (prV (upN f m k i) (upN l m k i))
    by_cases e : i = m
    · subst e
      rw [upN_at, upN_at, upN_at]
      refine gr _ _ _ ⟨fun j hj => ?_, fun j => ?_, by rw [z2]; omega⟩ (fun q => by have := hu _ q.symm; omega)
      · unfold prV
        match j, hj with
        | 0, _ => simp
        | 1, _ => simp
      · simp
    · have hi' : i < m := by have : i < m + 1 := hi; omega
      rw [upN_ne _ _ e, upN_ne _ _ e, upN_ne _ _ e]
      exact gr _ _ _ ((h.row i hi').next b2) (fun q => h.ne i hi' q.symm)
  · show B ≤ upN p m w.heap.size i
    by_cases e : i = m
    · subst e; rw [upN_at]; exact h.hs
    · rw [upN_ne _ _ e]; exact h.lo i (show i < m by have : i < m + 1 := hi; omega)
  · show some g3 ≠ some (upN p m w.heap.size i)
    intro q
    injection q with q
    by_cases e : i = m
    · subst e
      rw [upN_at] at q
      rcases hat with r | r
      · have := hu _ r; omega
      · omega
    · have hi' : i < m := by have : i < m + 1 := hi; omega
      rw [upN_ne _ _ e] at q
      rcases hat with r | r
      · exact h.ne i hi' (by rw [r, q])
      · have := hne i hi'; omega
  · have e' : upN p m w.heap.size i = upN p m w.heap.size j := e
    have hi2 : i < m + 1 := hi
    have hj2 : j < m + 1 := hj
    by_cases q1 : i = m
    · by_cases q2 : j = m
      · omega
      · subst q1
        rw [upN_at, upN_ne _ _ q2] at e'
        have := hne j (by omega)
        omega
    · by_cases q2 : j = m
      · subst q2
        rw [upN_at, upN_ne _ _ q1] at e'
        have := hne i (by omega)
        omega
      · rw [upN_ne _ _ q1, upN_ne _ _ q2] at e'
        exact h.inj i j (show i < m by omega) (show j < m by omega) e'
theorem Bm.lower {B B' : Nat} {w : World} {u : Value} {s : Sb} {p : Nat → Nat} (h : Bm B w u s p) (hb : B' ≤ B) : Bm B' w u s p :=
  ⟨⟨h.own.1, h.own.2.imp id (fun ⟨g, cp, cur, h1, h2, h3⟩ => ⟨g, cp, cur, h1, Nat.le_trans hb h2, h3⟩)⟩, h.row, fun i hi => Nat.le_trans hb (h.lo i hi), h.ne, h.inj, Nat.le_trans hb h.hs, h.z⟩
/-- What is answered. -/
def Sb.ls (s : Sb) (i : Nat) : List Int := [(s.f i : Int), (s.l i : Int)]
theorem Bm.ans {B : Nat} {w : World} {u : Value} {s : Sb} {p : Nat → Nat} (h : Bm B w u s p) : Ans B w u s.m s.ls := by
  obtain ⟨m, f, l⟩ := s
  rcases h.own.2 with ⟨h1, h2⟩ | ⟨g, c, cur, h1, h2, h3, h4, h5, h6, h7⟩
  · have h2 : m = 0 := h2
    subst h2
    exact ⟨none, 0, fun _ => 0, fun _ => 0, h1, ⟨fun x hx => absurd hx (Nat.not_lt_zero _), fun x i hx => absurd hx (Nat.not_lt_zero _), fun x i hx => absurd hx (Nat.not_lt_zero _), fun x y i j hx => absurd hx (Nat.not_lt_zero _), fun x i hx => absurd hx (Nat.not_lt_zero _)⟩⟩
  · have hw := h.own
    refine ⟨some ⟨g, 0, none⟩, c, p, fun _ => 0, h1, ⟨fun x hx => ⟨g, rfl, h2, ⟨some ⟨p x, 0, none⟩, 2, ?_, fun _ => rfl⟩, fun y i hy hi => ?_⟩, fun x i hx hi => ?_, fun x i hx hi => (h.row x hx).free _, fun x y i j hx hy hi hj e1 e2 => h.inj x y hx hy e1, fun x i hx hi => h.lo x hx⟩⟩
    · subst h1
      rw [World.ownsRow.cellAt hw x (by show x < m * 1; have : x < m := hx; omega)]
      exact vlP_at p hx
    · intro e
      have := h.ne y hy
      rw [h1] at this
      exact this (by rw [e]; rfl)
    · have hi : i < 2 := hi
      show w.cell? ⟨p x, 0 + i, none⟩ = _
      rw [Nat.zero_add, (h.row x hx).cell i hi]
      match i, hi with
      | 0, _ => rfl
      | 1, _ => rfl
end Go.Proofs.YtcgapochcahknaaDoor
namespace Go.Proofs.YtcgapochcahknaaDoor
open Go.ChangeShapes Go.WideShapes Go.ChangeAt Go.RowKit
set_option linter.unusedVariables false
/-- None of IJump, IZero, IBarrier, IEnd. -/
def freeK (o : Int) : Bool := !(o == 8) && (!(o == 9) && (!(o == 10) && !(o == 11)))
set_option maxRecDepth 100000 in
theorem mfreeK (o : Int) (w : World) : Calls Tryd.prog 78 #[.int .i64 o] w fun e w' => e = .returned (.bool (freeK o)) ∧ w' = w := by
  unfold freeK
  by_cases e8 : o = 8
  · subst e8
    go_enter Tryd.func78, Tryd.ntmps78
    go_wp2
    go_ret
    exact ⟨rfl, rfl⟩
  have b8 : (o == 8) = false := by simp [e8]
  by_cases e9 : o = 9
  · subst e9
    go_enter Tryd.func78, Tryd.ntmps78
    go_wp2
    go_ret
    exact ⟨rfl, rfl⟩
  have b9 : (o == 9) = false := by simp [e9]
  by_cases e10 : o = 10
  · subst e10
    go_enter Tryd.func78, Tryd.ntmps78
    go_wp2
    go_ret
    exact ⟨rfl, rfl⟩
  have b10 : (o == 10) = false := by simp [e10]
  by_cases e11 : o = 11
  · subst e11
    go_enter Tryd.func78, Tryd.ntmps78
    go_wp2
    go_ret
    exact ⟨rfl, rfl⟩
  have b11 : (o == 11) = false := by simp [e11]
  rw [b8, b9, b10, b11]
  have n8 : (o != 8) = true := by simp [e8]
  have n9 : (o != 9) = true := by simp [e9]
  have n10 : (o != 10) = true := by simp [e10]
  have n11 : (o != 11) = true := by simp [e11]
  clear e8 e9 e10 e11
  go_enter Tryd.func78, Tryd.ntmps78
  go_wp2
  go_ret
  exact ⟨rfl, rfl⟩
theorem free_cut (o : Int) : freeK o = !cutO o := by
  unfold freeK cutO
  cases (o == 8) <;> cases (o == 9) <;> cases (o == 10) <;> cases (o == 11) <;> rfl
theorem own_gr {w w' : World} {o n : Nat} {F : Nat → Value} {r : Option Nat} (h : Own w o n F) (k : w.grownBy w' r) (hn : some o ≠ r) : Own w' o n F := by
  have z := k.block o h.hi hn
  exact ⟨fun i hi => (World.cell?_of_block (a := ⟨o, i, none⟩) z).trans (h.cell i hi), fun i => (World.frozen?_of_block (a := ⟨o, i, none⟩) z).trans (h.free i), Nat.lt_of_lt_of_le h.hi k.size⟩
theorem own_2 {B t s : Nat} {w : World} {u : Value} {n : Nat} {xs : List Value} (h : w.ownsRow B t s u n xs) (a b : Obj) : ((w.alloc a).alloc b).ownsRow B t s u n xs := by
  have k : Below w.heap.size w ((w.alloc a).alloc b) := ((Below.refl _ _).alloc (Nat.le_refl _) _).alloc (by simp) _
  exact h.kept (row := none) ⟨k.os, k.tape, k.output, k.size, fun i hi _ => k.block i hi⟩ (by cases e : u.ownBlock <;> simp)
theorem base_2 {B : Nat} {w : World} (h : B ≤ w.heap.size) (a b : Obj) : B ≤ ((w.alloc a).alloc b).heap.size := by simp only [World.size_alloc]; omega
theorem cell_two (w : World) (a : Obj) (v : Value) (t H : Nat) (h : (w.alloc a).heap.size = H) : ∀ j u, [v][j]? = some u → ((w.alloc a).alloc (.cells #[v] t)).cell? ((⟨H, 0, none⟩ : Addr).add j) = some u := fun j u hj => by
  subst h
  match j, hj with
  | 0, hj => simp at hj; subst hj; simp [Addr.add]
theorem sl_one (ad : Option Addr) : ∀ u ∈ [Value.slice ad 2 2], u.oneCell' = true := by
  intro u hu; simp at hu; subst hu; rfl
theorem Ok.tg {c : Cd} (K : Ok c) (k : Nat) (hk : k < c.n) (t : Int) (ht : t ∈ tgL (c.O k) (c.A k) (c.B k) (c.C k)) : 0 ≤ t ∧ t < c.n := by
  have hT := K.tgs k hk
  unfold tgL at ht
  split at ht
  · rename_i e
    have := hT.1 e
    have : t = c.A k := by simpa using ht
    omega
  · split at ht
    · rename_i e
      have := hT.2 e
      have : t = c.B k ∨ t = c.C k := by simpa using ht
      omega
    · simp at ht
theorem bm_slice {B : Nat} {w : World} {u : Value} {s : Sb} {p : Nat → Nat} (h : Bm B w u s p) : ∃ a n c, u = .slice a n c := by
  rcases h.own.2 with ⟨h1, _⟩ | ⟨g, c, cur, h1, _⟩
  · exact ⟨_, _, _, h1⟩
  · exact ⟨_, _, _, h1⟩
theorem info45 : (Tryd.prog.info? 45).map (fun i => (i.zero, i.size, i.bytes)) = some (some (.slice none 0 0), 1, 24) := by kernel_rfl
set_option maxRecDepth 100000 in
set_option maxHeartbeats 8000000 in
theorem mblocks (a cap : Nat) (c : Cd) (K : Ok c) (w : World) (R : RowI w a c.n c.O c.D c.A c.B c.C c.X) : Calls Tryd.prog 55 #[.slice (some ⟨a, 0, none⟩) c.n cap] w fun e w' => ∃ u p, e = .returned u ∧ Bm w.heap.size w' u (c.bS c.n) p ∧ Below w.heap.size w w' := by
  obtain ⟨i6, hi6, hz60, hz61, hz62⟩ := info_parts info45
  have h59 := begins54 c.n a cap c.O c.D c.A c.B c.C c.X w R K.n1 K.tg
  have HR := Hid.mk R
  have hn6 := K.n1
  obtain ⟨n, hn2⟩ : ∃ n, c.n = n := ⟨_, rfl⟩
  have HN : Hid (c.n = n) := hn2
  rw [hn2] at hn6 h59 HR ⊢
  clear hn2 R K 
  go_enter Tryd.func55, Tryd.ntmps55
  go_wp2_with (go_at_call 59; refine h59.mono ?_; rintro e w2 ⟨rfl, O2, b2⟩)
  obtain ⟨q, hq⟩ : ∃ q, w.heap.size = q := ⟨_, rfl⟩
  have B2 : Hid (Below w.heap.size w w2) := b2
  have HB0 : Hid (w.heap.size ≤ w2.heap.size) := b2.size
  have HB1 : Hid (q < w2.heap.size) := by have := O2.hi; show _ < _; omega
  have K2 : Hid (Own w2 q (n + 1) (fun i => .bool (bgF c.O c.A c.B c.C n i))) := by show Own _ _ _ _; rw [← hq]; exact O2
  rw [hq]
  clear hq O2 b2 h59
  have S2 : Hid (c.bS 0 = ⟨0, fun _ => 0, fun _ => 0⟩) := rfl
  have M2 : Hid (Bm w2.heap.size w2 (.slice none 0 0) ⟨0, fun _ => 0, fun _ => 0⟩ (fun _ => 0)) := bm_nil w2
  obtain ⟨B0, hB0⟩ : ∃ B0, w2.heap.size = B0 := ⟨_, rfl⟩
  rw [hB0] at M2 HB0 HB1
  clear hB0
  go_wp2
  go_loopw [4, 12] (fun vv i wr => ∃ (k m : Nat) (f l p : Nat → Nat) (u : Value), k ≤ n ∧ i = .int .i64 k ∧ u = vv ∧ Hid (c.bS k = ⟨m, f, l⟩) ∧ Hid (Bm B0 wr u ⟨m, f, l⟩ p) ∧ Hid (Below w.heap.size w wr) ∧ Hid (Own wr q (n + 1) (fun i => .bool (bgF c.O c.A c.B c.C n i)))) (fun _ i _ => n - (intOf i).toNat)
  case atStart => exact ⟨0, 0, _, _, _, _, Nat.zero_le _, rfl, rfl, S2, M2, B2, K2⟩
  case round =>
    obtain ⟨k, m, f, l, p, u, hk, rfl, rfl, HS, HM, HB, HK⟩ := hrel
    clear S2 M2 B2 K2
    by_cases hkn : k < n
    · have j1 : (k : Int) < (n : Int) := by omega
      have j0 : (0 : Int) ≤ (k : Int) := by omega
      have j2 : (k : Int) < (n : Int) + 1 := by omega
      have j3 : (k : Int) < 600 := by omega
      have hkc : k < c.n := by rw [HN.out]; exact hkn
      have RW := HR.out.next HB.out
      have e0 := RW.c0 k hkn
      have e1 := RW.c1 k hkn
      have e2 := RW.c2 k hkn
      have e3 := RW.c3 k hkn
      have e4 := RW.c4 k hkn
      have e5 := RW.c5 k hkn
      have h78 := fun v => mfreeK (c.O k) v
      have hfr : freeK (c.O k) = !cutO (c.O k) := free_cut (c.O k)
      rw [hfr] at h78
      clear hfr
      have BAl : Below wr.heap.size wr (wr.alloc (.cells #[.int .i64 (c.O k), .int .i64 (c.D k), .int .i64 (c.A k), .int .i64 (c.B k), .int .i64 (c.C k), .int .u32 (c.X k)] 35)) := alloc_b
      have HM2 : Hid (Bm B0 (wr.alloc (.cells #[.int .i64 (c.O k), .int .i64 (c.D k), .int .i64 (c.A k), .int .i64 (c.B k), .int .i64 (c.C k), .int .u32 (c.X k)] 35)) u ⟨m, f, l⟩ p) := HM.out.next BAl
      have HB2 : Hid (Below w.heap.size w (wr.alloc (.cells #[.int .i64 (c.O k), .int .i64 (c.D k), .int .i64 (c.A k), .int .i64 (c.B k), .int .i64 (c.C k), .int .u32 (c.X k)] 35))) := HB.out.trans (BAl.mono HB.out.size)
      have HK2 : Hid (Own (wr.alloc (.cells #[.int .i64 (c.O k), .int .i64 (c.D k), .int .i64 (c.A k), .int .i64 (c.B k), .int .i64 (c.C k), .int .u32 (c.X k)] 35)) q (n + 1) (fun i => .bool (bgF c.O c.A c.B c.C n i))) := HK.out.next BAl
      have bm : m ≤ k := by have := (c.bi k).m; rw [HS.out] at this; exact this
      clear RW BAl HM HB HK
      have kb0 := HK2.out.cell k (by omega)
      have kb : (wr.alloc (.cells #[.int .i64 (c.O k), .int .i64 (c.D k), .int .i64 (c.A k), .int .i64 (c.B k), .int .i64 (c.C k), .int .u32 (c.X k)] 35)).cell? ⟨q, k, none⟩ = some (.bool (c.bg k)) := by rw [kb0]; show some (Value.bool _) = _; rw [show bgF c.O c.A c.B c.C n k = c.bg k by unfold Cd.bg; rw [HN.out]]
      clear kb0
      cases hcu : cutO (c.O k)
      case true =>
        have HCU : Hid (cutO (c.O k) = true) := hcu
        rw [hcu] at h78
        clear hcu kb
        have SN : Hid (c.bS (k + 1) = ⟨m, f, l⟩) := by show _ = _; rw [c.bS_cut HCU.out]; exact HS.out
        go_wp2_with (go_at_call 78; refine (h78 _).mono ?_; rintro e w1 ⟨rfl, hw⟩; subst w1)
        go_roundw
        case rel => exact ⟨k + 1, m, f, l, p, _, by omega, by go_num, rfl, SN, HM2, HB2, HK2⟩
        case measure => simp [intOf]; omega
      case false =>
        have HCU : Hid (cutO (c.O k) = false) := hcu
        rw [hcu] at h78
        clear hcu
        have HBK : Hid (∀ b, c.bg k = b → c.bg k = b) := fun _ h => h
        have bgk : c.bg k = true ∨ c.bg k = false := by cases c.bg k <;> simp
        cases m with
        | zero =>
          obtain rfl := HM2.out.z rfl
          have SN : Hid (c.bS (k + 1) = ⟨0 + 1, upN f (0) k, upN l (0) k⟩) := c.bS_new0 HCU.out HS.out
          go_wp2_with (first | (go_at_call 78; refine (h78 _).mono ?_; rintro e w1 ⟨rfl, hw⟩; subst w1) | (at_builtin; refine wpList_append_lies _ rfl _ _ 38 rfl B0 45 i6 (.slice none 0 0) 1 24 Tryd.underlying38 hi6 hz60 hz61 hz62 rfl (by decide) _ _ _ rfl (own_2 HM2.out.own _ _) ⟨_, 0, none⟩ 1 1 [.slice (some ⟨wr.heap.size + 1, 0, none⟩) 2 2] rfl rfl ?_ ?_ (by decide) ?_ ?_ ?_ _ rfl ?_))
          · intro j u hj
            match j, hj with
            | 0, hj => simp at hj; subst hj; first | (simp [Addr.add]; done) | exact cell_two _ _ _ _ _ (by simp) 0 _ rfl
          · exact sl_one _
          · first | omega | (unfold maxLen; omega)
          · exact base_2 HM2.out.hs _ _
          intro g3 cp3 w3 hown hgrow hat hlt
          have MN : Hid (Bm B0 w3 (.slice (some ⟨g3, 0, none⟩) (0 + 1) cp3) ⟨0 + 1, upN f (0) k, upN l (0) k⟩ (upN p (0) (wr.heap.size + 1))) := by
            have z : (wr.alloc (.cells #[.int .i64 (c.O k), .int .i64 (c.D k), .int .i64 (c.A k), .int .i64 (c.B k), .int .i64 (c.C k), .int .u32 (c.X k)] 35)).heap.size = wr.heap.size + 1 := by simp
            have := HM2.out.push k (w3 := w3) (g3 := g3) (cp3 := cp3) (by rw [z]; exact hown) (by rw [z]; exact hgrow) (by rw [z]; simpa using hat)
            rw [z] at this
            exact this
          have BN : Hid (Below w.heap.size w w3) := ((HB2.out.alloc HB2.out.size _).alloc (by have := HB2.out.size; simp at *; omega) _).grown hgrow (by have := HB2.out.size; simp at *; omega) (fun g hg => by have := (HM2.out.own.lt g hg).1; have := HB0.out; omega)
          have KN : Hid (Own w3 q (n + 1) (fun i => .bool (bgF c.O c.A c.B c.C n i))) := own_gr ((HK2.out.next alloc_b).next alloc_b) hgrow (fun e => by have := (HM2.out.own.lt q e.symm).1; have := HB1.out; omega)
          clear hown hgrow hat HM2 HB2 HK2
          go_wp2
          go_roundw
          case rel => exact ⟨k + 1, 0 + 1, _, _, _, _, by omega, by go_num, rfl, SN, MN, BN, KN⟩
          case measure => simp [intOf]; omega
        | succ m1 =>
          obtain ⟨g, cp, rfl, gB, gs, ca, cf⟩ := HM2.out.at
          have cm := ca m1 (by omega)
          have r0 : (wr.alloc (.cells #[.int .i64 (c.O k), .int .i64 (c.D k), .int .i64 (c.A k), .int .i64 (c.B k), .int .i64 (c.C k), .int .u32 (c.X k)] 35)).cell? ⟨p m1, 0, none⟩ = some (.int .i64 (f m1 : Int)) := (HM2.out.row m1 (Nat.lt_succ_self m1)).cell 0 (by omega)
          have r1 : (wr.alloc (.cells #[.int .i64 (c.O k), .int .i64 (c.D k), .int .i64 (c.A k), .int .i64 (c.B k), .int .i64 (c.C k), .int .u32 (c.X k)] 35)).cell? ⟨p m1, 1, none⟩ = some (.int .i64 (l m1 : Int)) := (HM2.out.row m1 (Nat.lt_succ_self m1)).cell 1 (by omega)
          have bl : f m1 ≤ l m1 ∧ l m1 < k ∧ l m1 - f m1 ≤ 63 := by have := (c.bi k).la (by rw [HS.out]; exact Nat.succ_pos m1); rw [HS.out] at this; exact this
          have m0 : (0 : Int) ≤ (m1 : Int) := by omega
          clear gB gs ca cf
          have HF : Hid (f m1 ≤ k) := by show _ ≤ _; omega
          by_cases q1 : l m1 + 1 = k
          case neg =>
            have x1 : ((l m1 : Int) == (k : Int) - 1) = false := by simp; omega
            generalize f m1 = fm at r0 bl HF
            generalize hlm : l m1 = lm at r1 bl x1
            have HLM : Hid (l m1 = lm) := hlm
            have Q1 : Hid (¬ l m1 + 1 = k) := q1
            clear hlm q1 bgk HBK
            generalize c.bg k = bk at kb
            have SN : Hid (c.bS (k + 1) = ⟨(m1 + 1) + 1, upN f ((m1 + 1)) k, upN l ((m1 + 1)) k⟩) := c.bS_new HCU.out HS.out (fun q => Q1.out q.1)
            go_wp2_with (first | (go_at_call 78; refine (h78 _).mono ?_; rintro e w1 ⟨rfl, hw⟩; subst w1) | (at_builtin; refine wpList_append_lies _ rfl _ _ 38 rfl B0 45 i6 (.slice none 0 0) 1 24 Tryd.underlying38 hi6 hz60 hz61 hz62 rfl (by decide) _ _ _ rfl (own_2 HM2.out.own _ _) ⟨_, 0, none⟩ 1 1 [.slice (some ⟨wr.heap.size + 1, 0, none⟩) 2 2] rfl rfl ?_ ?_ (by decide) ?_ ?_ ?_ _ rfl ?_))
            · intro j u hj
              match j, hj with
              | 0, hj => simp at hj; subst hj; first | (simp [Addr.add]; done) | exact cell_two _ _ _ _ _ (by simp) 0 _ rfl
            · exact sl_one _
            · unfold maxLen; omega
            · omega
            · exact base_2 HM2.out.hs _ _
            intro g3 cp3 w3 hown hgrow hat hlt
            have MN : Hid (Bm B0 w3 (.slice (some ⟨g3, 0, none⟩) ((m1 + 1) + 1) cp3) ⟨(m1 + 1) + 1, upN f ((m1 + 1)) k, upN l ((m1 + 1)) k⟩ (upN p ((m1 + 1)) (wr.heap.size + 1))) := by
              have z : (wr.alloc (.cells #[.int .i64 (c.O k), .int .i64 (c.D k), .int .i64 (c.A k), .int .i64 (c.B k), .int .i64 (c.C k), .int .u32 (c.X k)] 35)).heap.size = wr.heap.size + 1 := by simp
              have := HM2.out.push k (w3 := w3) (g3 := g3) (cp3 := cp3) (by rw [z]; exact hown) (by rw [z]; exact hgrow) (by rw [z]; simpa using hat)
              rw [z] at this
              exact this
            have BN : Hid (Below w.heap.size w w3) := ((HB2.out.alloc HB2.out.size _).alloc (by have := HB2.out.size; simp at *; omega) _).grown hgrow (by have := HB2.out.size; simp at *; omega) (fun g hg => by have := (HM2.out.own.lt g hg).1; have := HB0.out; omega)
            have KN : Hid (Own w3 q (n + 1) (fun i => .bool (bgF c.O c.A c.B c.C n i))) := own_gr ((HK2.out.next alloc_b).next alloc_b) hgrow (fun e => by have := (HM2.out.own.lt q e.symm).1; have := HB1.out; omega)
            clear hown hgrow hat HM2 HB2 HK2
            go_wp2
            go_roundw
            case rel => exact ⟨k + 1, (m1 + 1) + 1, _, _, _, _, by omega, by go_num, rfl, SN, MN, BN, KN⟩
            case measure => simp [intOf]; omega
          have x1 : ((l m1 : Int) == (k : Int) - 1) = true := by simp; omega
          have HL1 : Hid (l m1 + 1 = k) := q1
          rcases bgk with hb | hb
          · have Q2 : Hid (c.bg k = true) := hb
            rw [hb] at kb
            clear hb HBK q1
            have SN : Hid (c.bS (k + 1) = ⟨(m1 + 1) + 1, upN f ((m1 + 1)) k, upN l ((m1 + 1)) k⟩) := c.bS_new HCU.out HS.out (fun q => by have := q.2.1; rw [Q2.out] at this; exact absurd this (by decide))
            go_wp2_with (first | (go_at_call 78; refine (h78 _).mono ?_; rintro e w1 ⟨rfl, hw⟩; subst w1) | (at_builtin; refine wpList_append_lies _ rfl _ _ 38 rfl B0 45 i6 (.slice none 0 0) 1 24 Tryd.underlying38 hi6 hz60 hz61 hz62 rfl (by decide) _ _ _ rfl (own_2 HM2.out.own _ _) ⟨_, 0, none⟩ 1 1 [.slice (some ⟨wr.heap.size + 1, 0, none⟩) 2 2] rfl rfl ?_ ?_ (by decide) ?_ ?_ ?_ _ rfl ?_))
            · intro j u hj
              match j, hj with
              | 0, hj => simp at hj; subst hj; first | (simp [Addr.add]; done) | exact cell_two _ _ _ _ _ (by simp) 0 _ rfl
            · exact sl_one _
            · unfold maxLen; omega
            · omega
            · exact base_2 HM2.out.hs _ _
            intro g3 cp3 w3 hown hgrow hat hlt
            have MN : Hid (Bm B0 w3 (.slice (some ⟨g3, 0, none⟩) ((m1 + 1) + 1) cp3) ⟨(m1 + 1) + 1, upN f ((m1 + 1)) k, upN l ((m1 + 1)) k⟩ (upN p ((m1 + 1)) (wr.heap.size + 1))) := by
              have z : (wr.alloc (.cells #[.int .i64 (c.O k), .int .i64 (c.D k), .int .i64 (c.A k), .int .i64 (c.B k), .int .i64 (c.C k), .int .u32 (c.X k)] 35)).heap.size = wr.heap.size + 1 := by simp
              have := HM2.out.push k (w3 := w3) (g3 := g3) (cp3 := cp3) (by rw [z]; exact hown) (by rw [z]; exact hgrow) (by rw [z]; simpa using hat)
              rw [z] at this
              exact this
            have BN : Hid (Below w.heap.size w w3) := ((HB2.out.alloc HB2.out.size _).alloc (by have := HB2.out.size; simp at *; omega) _).grown hgrow (by have := HB2.out.size; simp at *; omega) (fun g hg => by have := (HM2.out.own.lt g hg).1; have := HB0.out; omega)
            have KN : Hid (Own w3 q (n + 1) (fun i => .bool (bgF c.O c.A c.B c.C n i))) := own_gr ((HK2.out.next alloc_b).next alloc_b) hgrow (fun e => by have := (HM2.out.own.lt q e.symm).1; have := HB1.out; omega)
            clear hown hgrow hat HM2 HB2 HK2
            go_wp2
            go_roundw
            case rel => exact ⟨k + 1, (m1 + 1) + 1, _, _, _, _, by omega, by go_num, rfl, SN, MN, BN, KN⟩
            case measure => simp [intOf]; omega
          have HBG : Hid (c.bg k = false) := hb
          rw [hb] at kb
          clear hb HBK q1
          by_cases q3 : k - f m1 < 64
          case neg =>
            have x3 : ¬ (k : Int) - (f m1 : Int) < 64 := by omega
            have x4 : wrap64 ((k : Int) - (f m1 : Int)) = (k : Int) - (f m1 : Int) := by unfold wrap64; omega
            have Q3 : Hid (¬ k - f m1 < 64) := q3
            clear q3
            have SN : Hid (c.bS (k + 1) = ⟨(m1 + 1) + 1, upN f ((m1 + 1)) k, upN l ((m1 + 1)) k⟩) := c.bS_new HCU.out HS.out (fun q => Q3.out q.2.2)
            go_wp2_with (first | (go_at_call 78; refine (h78 _).mono ?_; rintro e w1 ⟨rfl, hw⟩; subst w1) | (at_builtin; refine wpList_append_lies _ rfl _ _ 38 rfl B0 45 i6 (.slice none 0 0) 1 24 Tryd.underlying38 hi6 hz60 hz61 hz62 rfl (by decide) _ _ _ rfl (own_2 HM2.out.own _ _) ⟨_, 0, none⟩ 1 1 [.slice (some ⟨wr.heap.size + 1, 0, none⟩) 2 2] rfl rfl ?_ ?_ (by decide) ?_ ?_ ?_ _ rfl ?_))
            · intro j u hj
              match j, hj with
              | 0, hj => simp at hj; subst hj; first | (simp [Addr.add]; done) | exact cell_two _ _ _ _ _ (by simp) 0 _ rfl
            · exact sl_one _
            · unfold maxLen; omega
            · omega
            · exact base_2 HM2.out.hs _ _
            intro g3 cp3 w3 hown hgrow hat hlt
            have MN : Hid (Bm B0 w3 (.slice (some ⟨g3, 0, none⟩) ((m1 + 1) + 1) cp3) ⟨(m1 + 1) + 1, upN f ((m1 + 1)) k, upN l ((m1 + 1)) k⟩ (upN p ((m1 + 1)) (wr.heap.size + 1))) := by
              have z : (wr.alloc (.cells #[.int .i64 (c.O k), .int .i64 (c.D k), .int .i64 (c.A k), .int .i64 (c.B k), .int .i64 (c.C k), .int .u32 (c.X k)] 35)).heap.size = wr.heap.size + 1 := by simp
              have := HM2.out.push k (w3 := w3) (g3 := g3) (cp3 := cp3) (by rw [z]; exact hown) (by rw [z]; exact hgrow) (by rw [z]; simpa using hat)
              rw [z] at this
              exact this
            have BN : Hid (Below w.heap.size w w3) := ((HB2.out.alloc HB2.out.size _).alloc (by have := HB2.out.size; simp at *; omega) _).grown hgrow (by have := HB2.out.size; simp at *; omega) (fun g hg => by have := (HM2.out.own.lt g hg).1; have := HB0.out; omega)
            have KN : Hid (Own w3 q (n + 1) (fun i => .bool (bgF c.O c.A c.B c.C n i))) := own_gr ((HK2.out.next alloc_b).next alloc_b) hgrow (fun e => by have := (HM2.out.own.lt q e.symm).1; have := HB1.out; omega)
            clear hown hgrow hat HM2 HB2 HK2
            go_wp2
            go_roundw
            case rel => exact ⟨k + 1, (m1 + 1) + 1, _, _, _, _, by omega, by go_num, rfl, SN, MN, BN, KN⟩
            case measure => simp [intOf]; omega
          have x3 : (k : Int) - (f m1 : Int) < 64 := by omega
          have x4 : wrap64 ((k : Int) - (f m1 : Int)) = (k : Int) - (f m1 : Int) := by unfold wrap64; omega
          have HLT : Hid (k - f m1 < 64) := q3
          clear q3
          have f1 := (HM2.out.row m1 (Nat.lt_succ_self m1)).free 1
          have SN : Hid (c.bS (k + 1) = ⟨m1 + 1, f, upN l m1 k⟩) := c.bS_ext HCU.out HS.out HL1.out HBG.out HLT.out
          have MN : Hid (Bm B0 ((wr.alloc (.cells #[.int .i64 (c.O k), .int .i64 (c.D k), .int .i64 (c.A k), .int .i64 (c.B k), .int .i64 (c.C k), .int .u32 (c.X k)] 35)).setCell ⟨p m1, 1, none⟩ (.int .i64 (k : Int))) (.slice (some ⟨g, 0, none⟩) (m1 + 1) cp) ⟨m1 + 1, f, upN l m1 k⟩ p) := HM2.out.set k
          have BN : Hid (Below w.heap.size w ((wr.alloc (.cells #[.int .i64 (c.O k), .int .i64 (c.D k), .int .i64 (c.A k), .int .i64 (c.B k), .int .i64 (c.C k), .int .u32 (c.X k)] 35)).setCell ⟨p m1, 1, none⟩ (.int .i64 (k : Int)))) := HB2.out.setCell (p := ⟨p m1, 1, none⟩) (by have := HM2.out.lo m1 (Nat.lt_succ_self m1); have := HB0.out; show _ ≤ p m1; omega) _
          have KN : Hid (Own ((wr.alloc (.cells #[.int .i64 (c.O k), .int .i64 (c.D k), .int .i64 (c.A k), .int .i64 (c.B k), .int .i64 (c.C k), .int .u32 (c.X k)] 35)).setCell ⟨p m1, 1, none⟩ (.int .i64 (k : Int))) q (n + 1) (fun i => .bool (bgF c.O c.A c.B c.C n i))) := HK2.out.but ((Only.refl _ _).setCell _ _) (by have := HM2.out.lo m1 (Nat.lt_succ_self m1); have := HB1.out; omega)
          clear HM2 HB2 HK2
          go_wp2_with (go_at_call 78; refine (h78 _).mono ?_; rintro e w1 ⟨rfl, hw⟩; subst w1)
          go_roundw
          case rel => exact ⟨k + 1, m1 + 1, f, _, p, _, by omega, by go_num, rfl, SN, MN, BN, KN⟩
          case measure => simp [intOf]; omega
    · obtain rfl : n = k := by omega
      have j1 : ¬ (n : Int) < (n : Int) := by omega
      have ME : Hid (Bm w.heap.size wr u (c.bS n) p) := by show Bm _ _ _ _ _; rw [HS.out]; exact HM.out.lower HB0.out
      clear HM
      go_wp2
      go_ret
      first
      | exact ⟨_, p, rfl, ME.out, HB.out⟩
      | exact ⟨_, rfl, p, ME.out, HB.out⟩
      | exact ⟨_, rfl, ⟨p, ME.out⟩, HB.out⟩
set_option maxRecDepth 100000 in
set_option maxHeartbeats 8000000 in
theorem pblocks (a cap : Nat) (c : Cd) (K : Ok c) (w : World) (R : RowI w a c.n c.O c.D c.A c.B c.C c.X) (hc : c.n ≤ cap) : Calls Tryd.prog 57 #[.slice (some ⟨a, 0, none⟩) c.n cap] w fun e w' => ∃ u p, e = .returned u ∧ Bm w.heap.size w' u (c.bS c.n) p ∧ Below w.heap.size w w' := by
  obtain ⟨i6, hi6, hz60, hz61, hz62⟩ := info_parts info45
  have h63 := begins60 a cap c K w R hc
  have HR := Hid.mk R
  have hn6 := K.n1
  obtain ⟨n, hn2⟩ : ∃ n, c.n = n := ⟨_, rfl⟩
  have HN : Hid (c.n = n) := hn2
  rw [hn2] at hn6 h63 HR ⊢
  clear hn2 R K hc
  go_enter Tryd.func57, Tryd.ntmps57
  go_wp2_with (first | (go_at_call 63; refine h63.mono ?_; rintro e w1 ⟨⟨S, rfl, hS⟩, b1⟩) | (refine wpList_store_own rfl 84 _ _ rfl w1.heap.size rfl 600 _ _ rfl (own_vals w1 (fun _ => .bool false) 600 84) (fun _ => rfl) size44 ?_; intro w2 O2 K2))
  have B12 : Below w1.heap.size w1 w2 := ((Below.refl _ _).alloc (Nat.le_refl _) _).trans (K2.below (Nat.le_refl _) (by simp))
  obtain ⟨q, hq⟩ : ∃ q, w1.heap.size = q := ⟨_, rfl⟩
  have B2 : Hid (Below w.heap.size w w2) := b1.trans (B12.mono b1.size)
  have HB0 : Hid (w.heap.size ≤ w2.heap.size) := B2.out.size
  have HB1 : Hid (q < w2.heap.size) := by have := O2.hi; show _ < _; omega
  have K3 : Hid (Own w2 q 600 (fun i => .bool (S i))) := by show Own _ _ _ _; rw [← hq]; exact O2
  rw [hq]
  clear hq O2 b1 K2 B12 h63
  have K2 := K3
  clear K3
  have S2 : Hid (c.bS 0 = ⟨0, fun _ => 0, fun _ => 0⟩) := rfl
  have M2 : Hid (Bm w2.heap.size w2 (.slice none 0 0) ⟨0, fun _ => 0, fun _ => 0⟩ (fun _ => 0)) := bm_nil w2
  obtain ⟨B0, hB0⟩ : ∃ B0, w2.heap.size = B0 := ⟨_, rfl⟩
  rw [hB0] at M2 HB0 HB1
  clear hB0
  go_wp2
  go_loopw [4, 12] (fun vv i wr => ∃ (k m : Nat) (f l p : Nat → Nat) (u : Value), k ≤ n ∧ i = .int .i64 k ∧ u = vv ∧ Hid (c.bS k = ⟨m, f, l⟩) ∧ Hid (Bm B0 wr u ⟨m, f, l⟩ p) ∧ Hid (Below w.heap.size w wr) ∧ Hid (Own wr q 600 (fun i => .bool (S i)))) (fun _ i _ => n - (intOf i).toNat)
  case atStart => exact ⟨0, 0, _, _, _, _, Nat.zero_le _, rfl, rfl, S2, M2, B2, K2⟩
  case round =>
    obtain ⟨k, m, f, l, p, u, hk, rfl, rfl, HS, HM, HB, HK⟩ := hrel
    clear S2 M2 B2 K2
    by_cases hkn : k < n
    · have j1 : (k : Int) < (n : Int) := by omega
      have j0 : (0 : Int) ≤ (k : Int) := by omega
      have j2 : (k : Int) < (n : Int) + 1 := by omega
      have j3 : (k : Int) < 600 := by omega
      have hkc : k < c.n := by rw [HN.out]; exact hkn
      have RW := HR.out.next HB.out
      have e0 := RW.c0 k hkn
      have e1 := RW.c1 k hkn
      have e2 := RW.c2 k hkn
      have e3 := RW.c3 k hkn
      have e4 := RW.c4 k hkn
      have e5 := RW.c5 k hkn
      have h78 := fun v => ends90 (c.O k) v
      have BAl : Below wr.heap.size wr (wr.alloc (.cells #[.int .i64 (c.O k), .int .i64 (c.D k), .int .i64 (c.A k), .int .i64 (c.B k), .int .i64 (c.C k), .int .u32 (c.X k)] 35)) := alloc_b
      have HM2 : Hid (Bm B0 (wr.alloc (.cells #[.int .i64 (c.O k), .int .i64 (c.D k), .int .i64 (c.A k), .int .i64 (c.B k), .int .i64 (c.C k), .int .u32 (c.X k)] 35)) u ⟨m, f, l⟩ p) := HM.out.next BAl
      have HB2 : Hid (Below w.heap.size w (wr.alloc (.cells #[.int .i64 (c.O k), .int .i64 (c.D k), .int .i64 (c.A k), .int .i64 (c.B k), .int .i64 (c.C k), .int .u32 (c.X k)] 35))) := HB.out.trans (BAl.mono HB.out.size)
      have HK2 : Hid (Own (wr.alloc (.cells #[.int .i64 (c.O k), .int .i64 (c.D k), .int .i64 (c.A k), .int .i64 (c.B k), .int .i64 (c.C k), .int .u32 (c.X k)] 35)) q 600 (fun i => .bool (S i))) := HK.out.next BAl
      have bm : m ≤ k := by have := (c.bi k).m; rw [HS.out] at this; exact this
      clear RW BAl HM HB HK
      have kb0 := HK2.out.cell k (by omega)
      have kb : (wr.alloc (.cells #[.int .i64 (c.O k), .int .i64 (c.D k), .int .i64 (c.A k), .int .i64 (c.B k), .int .i64 (c.C k), .int .u32 (c.X k)] 35)).cell? ⟨q, k, none⟩ = some (.bool (c.bg k)) := by rw [kb0]; show some (Value.bool _) = _; rw [hS.out k (by omega)]
      clear kb0
      cases hcu : cutO (c.O k)
      case true =>
        have HCU : Hid (cutO (c.O k) = true) := hcu
        rw [hcu] at h78
        clear hcu kb
        have SN : Hid (c.bS (k + 1) = ⟨m, f, l⟩) := by show _ = _; rw [c.bS_cut HCU.out]; exact HS.out
        (obtain ⟨su, sn, sc, rfl⟩ := bm_slice HM2.out)
        go_wp2_with (go_at_call 90; refine (h78 _).mono ?_; rintro e w1 ⟨rfl, hw⟩; subst w1)
        go_roundw
        case rel => exact ⟨k + 1, m, f, l, p, _, by omega, by go_num, rfl, SN, HM2, HB2, HK2⟩
        case measure => simp [intOf]; omega
      case false =>
        have HCU : Hid (cutO (c.O k) = false) := hcu
        rw [hcu] at h78
        clear hcu
        have HBK : Hid (∀ b, c.bg k = b → c.bg k = b) := fun _ h => h
        have bgk : c.bg k = true ∨ c.bg k = false := by cases c.bg k <;> simp
        cases m with
        | zero =>
          obtain rfl := HM2.out.z rfl
          have hb : c.bg k = true := by
            rcases bgk with hb | hb
            · exact hb
            · exfalso
              have k0 : 0 < k := Nat.pos_of_ne_zero (fun e => by subst e; rw [bg_zero] at hb; exact absurd hb (by decide))
              have hp := (c.bi k).pr k0 (by
                cases hx : cutO (c.O (k - 1))
                · rfl
                · have := bg_cut c (k - 1) (by omega) hx
                  rw [show k - 1 + 1 = k by omega, hb] at this
                  exact absurd this (by decide))
              rw [HS.out] at hp
              exact absurd hp.1 (Nat.lt_irrefl 0)
          rw [hb] at kb
          clear hb bgk HBK
          have SN : Hid (c.bS (k + 1) = ⟨0 + 1, upN f (0) k, upN l (0) k⟩) := c.bS_new0 HCU.out HS.out
          go_wp2_with (first | (go_at_call 90; refine (h78 _).mono ?_; rintro e w1 ⟨rfl, hw⟩; subst w1) | (at_builtin; refine wpList_append_lies _ rfl _ _ 38 rfl B0 45 i6 (.slice none 0 0) 1 24 Tryd.underlying38 hi6 hz60 hz61 hz62 rfl (by decide) _ _ _ rfl (own_2 HM2.out.own _ _) ⟨_, 0, none⟩ 1 1 [.slice (some ⟨wr.heap.size + 1, 0, none⟩) 2 2] rfl rfl ?_ ?_ (by decide) ?_ ?_ ?_ _ rfl ?_))
          · intro j u hj
            match j, hj with
            | 0, hj => simp at hj; subst hj; first | (simp [Addr.add]; done) | exact cell_two _ _ _ _ _ (by simp) 0 _ rfl
          · exact sl_one _
          · first | omega | (unfold maxLen; omega)
          · exact base_2 HM2.out.hs _ _
          intro g3 cp3 w3 hown hgrow hat hlt
          have MN : Hid (Bm B0 w3 (.slice (some ⟨g3, 0, none⟩) (0 + 1) cp3) ⟨0 + 1, upN f (0) k, upN l (0) k⟩ (upN p (0) (wr.heap.size + 1))) := by
            have z : (wr.alloc (.cells #[.int .i64 (c.O k), .int .i64 (c.D k), .int .i64 (c.A k), .int .i64 (c.B k), .int .i64 (c.C k), .int .u32 (c.X k)] 35)).heap.size = wr.heap.size + 1 := by simp
            have := HM2.out.push k (w3 := w3) (g3 := g3) (cp3 := cp3) (by rw [z]; exact hown) (by rw [z]; exact hgrow) (by rw [z]; simpa using hat)
            rw [z] at this
            exact this
          have BN : Hid (Below w.heap.size w w3) := ((HB2.out.alloc HB2.out.size _).alloc (by have := HB2.out.size; simp at *; omega) _).grown hgrow (by have := HB2.out.size; simp at *; omega) (fun g hg => by have := (HM2.out.own.lt g hg).1; have := HB0.out; omega)
          have KN : Hid (Own w3 q 600 (fun i => .bool (S i))) := own_gr ((HK2.out.next alloc_b).next alloc_b) hgrow (fun e => by have := (HM2.out.own.lt q e.symm).1; have := HB1.out; omega)
          clear hown hgrow hat HM2 HB2 HK2
          go_wp2
          go_roundw
          case rel => exact ⟨k + 1, 0 + 1, _, _, _, _, by omega, by go_num, rfl, SN, MN, BN, KN⟩
          case measure => simp [intOf]; omega
        | succ m1 =>
          obtain ⟨g, cp, rfl, gB, gs, ca, cf⟩ := HM2.out.at
          have cm := ca m1 (by omega)
          have r0 : (wr.alloc (.cells #[.int .i64 (c.O k), .int .i64 (c.D k), .int .i64 (c.A k), .int .i64 (c.B k), .int .i64 (c.C k), .int .u32 (c.X k)] 35)).cell? ⟨p m1, 0, none⟩ = some (.int .i64 (f m1 : Int)) := (HM2.out.row m1 (Nat.lt_succ_self m1)).cell 0 (by omega)
          have r1 : (wr.alloc (.cells #[.int .i64 (c.O k), .int .i64 (c.D k), .int .i64 (c.A k), .int .i64 (c.B k), .int .i64 (c.C k), .int .u32 (c.X k)] 35)).cell? ⟨p m1, 1, none⟩ = some (.int .i64 (l m1 : Int)) := (HM2.out.row m1 (Nat.lt_succ_self m1)).cell 1 (by omega)
          have bl : f m1 ≤ l m1 ∧ l m1 < k ∧ l m1 - f m1 ≤ 63 := by have := (c.bi k).la (by rw [HS.out]; exact Nat.succ_pos m1); rw [HS.out] at this; exact this
          have m0 : (0 : Int) ≤ (m1 : Int) := by omega
          clear gB gs ca cf
          rcases bgk with hb | hb
          · have Q2 : Hid (c.bg k = true) := hb
            rw [hb] at kb
            clear hb HBK
            have SN : Hid (c.bS (k + 1) = ⟨(m1 + 1) + 1, upN f ((m1 + 1)) k, upN l ((m1 + 1)) k⟩) := c.bS_new HCU.out HS.out (fun q => by have := q.2.1; rw [Q2.out] at this; exact absurd this (by decide))
            go_wp2_with (first | (go_at_call 90; refine (h78 _).mono ?_; rintro e w1 ⟨rfl, hw⟩; subst w1) | (at_builtin; refine wpList_append_lies _ rfl _ _ 38 rfl B0 45 i6 (.slice none 0 0) 1 24 Tryd.underlying38 hi6 hz60 hz61 hz62 rfl (by decide) _ _ _ rfl (own_2 HM2.out.own _ _) ⟨_, 0, none⟩ 1 1 [.slice (some ⟨wr.heap.size + 1, 0, none⟩) 2 2] rfl rfl ?_ ?_ (by decide) ?_ ?_ ?_ _ rfl ?_))
            · intro j u hj
              match j, hj with
              | 0, hj => simp at hj; subst hj; first | (simp [Addr.add]; done) | exact cell_two _ _ _ _ _ (by simp) 0 _ rfl
            · exact sl_one _
            · unfold maxLen; omega
            · omega
            · exact base_2 HM2.out.hs _ _
            intro g3 cp3 w3 hown hgrow hat hlt
            have MN : Hid (Bm B0 w3 (.slice (some ⟨g3, 0, none⟩) ((m1 + 1) + 1) cp3) ⟨(m1 + 1) + 1, upN f ((m1 + 1)) k, upN l ((m1 + 1)) k⟩ (upN p ((m1 + 1)) (wr.heap.size + 1))) := by
              have z : (wr.alloc (.cells #[.int .i64 (c.O k), .int .i64 (c.D k), .int .i64 (c.A k), .int .i64 (c.B k), .int .i64 (c.C k), .int .u32 (c.X k)] 35)).heap.size = wr.heap.size + 1 := by simp
              have := HM2.out.push k (w3 := w3) (g3 := g3) (cp3 := cp3) (by rw [z]; exact hown) (by rw [z]; exact hgrow) (by rw [z]; simpa using hat)
              rw [z] at this
              exact this
            have BN : Hid (Below w.heap.size w w3) := ((HB2.out.alloc HB2.out.size _).alloc (by have := HB2.out.size; simp at *; omega) _).grown hgrow (by have := HB2.out.size; simp at *; omega) (fun g hg => by have := (HM2.out.own.lt g hg).1; have := HB0.out; omega)
            have KN : Hid (Own w3 q 600 (fun i => .bool (S i))) := own_gr ((HK2.out.next alloc_b).next alloc_b) hgrow (fun e => by have := (HM2.out.own.lt q e.symm).1; have := HB1.out; omega)
            clear hown hgrow hat HM2 HB2 HK2
            go_wp2
            go_roundw
            case rel => exact ⟨k + 1, (m1 + 1) + 1, _, _, _, _, by omega, by go_num, rfl, SN, MN, BN, KN⟩
            case measure => simp [intOf]; omega
          have HBG : Hid (c.bg k = false) := hb
          have HL1 : Hid (l m1 + 1 = k) := by
            have k0 : 0 < k := Nat.pos_of_ne_zero (fun e => by subst e; rw [bg_zero] at hb; exact absurd hb (by decide))
            have hp := (c.bi k).pr k0 (by
              cases hx : cutO (c.O (k - 1))
              · rfl
              · have := bg_cut c (k - 1) (by omega) hx
                rw [show k - 1 + 1 = k by omega, hb] at this
                exact absurd this (by decide))
            rw [HS.out] at hp
            exact hp.2
          rw [hb] at kb
          clear hb HBK
          have x4 : wrap64 ((k : Int) - (f m1 : Int)) = (k : Int) - (f m1 : Int) := by unfold wrap64; omega
          by_cases q3 : k - f m1 = 64
          case pos =>
            have x3 : ((k : Int) - (f m1 : Int) == 64) = true := by simp; omega
            have Q3 : Hid (¬ k - f m1 < 64) := by show ¬ _; omega
            clear q3
            have SN : Hid (c.bS (k + 1) = ⟨(m1 + 1) + 1, upN f ((m1 + 1)) k, upN l ((m1 + 1)) k⟩) := c.bS_new HCU.out HS.out (fun q => Q3.out q.2.2)
            go_wp2_with (first | (go_at_call 90; refine (h78 _).mono ?_; rintro e w1 ⟨rfl, hw⟩; subst w1) | (at_builtin; refine wpList_append_lies _ rfl _ _ 38 rfl B0 45 i6 (.slice none 0 0) 1 24 Tryd.underlying38 hi6 hz60 hz61 hz62 rfl (by decide) _ _ _ rfl (own_2 HM2.out.own _ _) ⟨_, 0, none⟩ 1 1 [.slice (some ⟨wr.heap.size + 1, 0, none⟩) 2 2] rfl rfl ?_ ?_ (by decide) ?_ ?_ ?_ _ rfl ?_))
            · intro j u hj
              match j, hj with
              | 0, hj => simp at hj; subst hj; first | (simp [Addr.add]; done) | exact cell_two _ _ _ _ _ (by simp) 0 _ rfl
            · exact sl_one _
            · unfold maxLen; omega
            · omega
            · exact base_2 HM2.out.hs _ _
            intro g3 cp3 w3 hown hgrow hat hlt
            have MN : Hid (Bm B0 w3 (.slice (some ⟨g3, 0, none⟩) ((m1 + 1) + 1) cp3) ⟨(m1 + 1) + 1, upN f ((m1 + 1)) k, upN l ((m1 + 1)) k⟩ (upN p ((m1 + 1)) (wr.heap.size + 1))) := by
              have z : (wr.alloc (.cells #[.int .i64 (c.O k), .int .i64 (c.D k), .int .i64 (c.A k), .int .i64 (c.B k), .int .i64 (c.C k), .int .u32 (c.X k)] 35)).heap.size = wr.heap.size + 1 := by simp
              have := HM2.out.push k (w3 := w3) (g3 := g3) (cp3 := cp3) (by rw [z]; exact hown) (by rw [z]; exact hgrow) (by rw [z]; simpa using hat)
              rw [z] at this
              exact this
            have BN : Hid (Below w.heap.size w w3) := ((HB2.out.alloc HB2.out.size _).alloc (by have := HB2.out.size; simp at *; omega) _).grown hgrow (by have := HB2.out.size; simp at *; omega) (fun g hg => by have := (HM2.out.own.lt g hg).1; have := HB0.out; omega)
            have KN : Hid (Own w3 q 600 (fun i => .bool (S i))) := own_gr ((HK2.out.next alloc_b).next alloc_b) hgrow (fun e => by have := (HM2.out.own.lt q e.symm).1; have := HB1.out; omega)
            clear hown hgrow hat HM2 HB2 HK2
            go_wp2
            go_roundw
            case rel => exact ⟨k + 1, (m1 + 1) + 1, _, _, _, _, by omega, by go_num, rfl, SN, MN, BN, KN⟩
            case measure => simp [intOf]; omega
          have x3 : ((k : Int) - (f m1 : Int) == 64) = false := by simp; omega
          have HLT : Hid (k - f m1 < 64) := by have := HL1.out; show _ < _; omega
          clear q3
          have f1 := (HM2.out.row m1 (Nat.lt_succ_self m1)).free 1
          have SN : Hid (c.bS (k + 1) = ⟨m1 + 1, f, upN l m1 k⟩) := c.bS_ext HCU.out HS.out HL1.out HBG.out HLT.out
          have MN : Hid (Bm B0 ((wr.alloc (.cells #[.int .i64 (c.O k), .int .i64 (c.D k), .int .i64 (c.A k), .int .i64 (c.B k), .int .i64 (c.C k), .int .u32 (c.X k)] 35)).setCell ⟨p m1, 1, none⟩ (.int .i64 (k : Int))) (.slice (some ⟨g, 0, none⟩) (m1 + 1) cp) ⟨m1 + 1, f, upN l m1 k⟩ p) := HM2.out.set k
          have BN : Hid (Below w.heap.size w ((wr.alloc (.cells #[.int .i64 (c.O k), .int .i64 (c.D k), .int .i64 (c.A k), .int .i64 (c.B k), .int .i64 (c.C k), .int .u32 (c.X k)] 35)).setCell ⟨p m1, 1, none⟩ (.int .i64 (k : Int)))) := HB2.out.setCell (p := ⟨p m1, 1, none⟩) (by have := HM2.out.lo m1 (Nat.lt_succ_self m1); have := HB0.out; show _ ≤ p m1; omega) _
          have KN : Hid (Own ((wr.alloc (.cells #[.int .i64 (c.O k), .int .i64 (c.D k), .int .i64 (c.A k), .int .i64 (c.B k), .int .i64 (c.C k), .int .u32 (c.X k)] 35)).setCell ⟨p m1, 1, none⟩ (.int .i64 (k : Int))) q 600 (fun i => .bool (S i))) := HK2.out.but ((Only.refl _ _).setCell _ _) (by have := HM2.out.lo m1 (Nat.lt_succ_self m1); have := HB1.out; omega)
          clear HM2 HB2 HK2
          go_wp2_with (go_at_call 90; refine (h78 _).mono ?_; rintro e w1 ⟨rfl, hw⟩; subst w1)
          go_roundw
          case rel => exact ⟨k + 1, m1 + 1, f, _, p, _, by omega, by go_num, rfl, SN, MN, BN, KN⟩
          case measure => simp [intOf]; omega
    · obtain rfl : n = k := by omega
      have j1 : ¬ (n : Int) < (n : Int) := by omega
      have ME : Hid (Bm w.heap.size wr u (c.bS n) p) := by show Bm _ _ _ _ _; rw [HS.out]; exact HM.out.lower HB0.out
      clear HM
      go_wp2
      go_ret
      first
      | exact ⟨_, p, rfl, ME.out, HB.out⟩
      | exact ⟨_, rfl, p, ME.out, HB.out⟩
      | exact ⟨_, rfl, ⟨p, ME.out⟩, HB.out⟩
end Go.Proofs.YtcgapochcahknaaDoor
namespace Go.Proofs.YtcgapochcahknaaDoor
open Go.ChangeShapes Go.WideShapes Go.ChangeAt Go.RowKit
set_option linter.unusedVariables false
/-- How many stretches BlocksOf answers. -/
def Cd.bn (c : Cd) : Nat := if goodC c.O c.D c.A c.B c.C c.X c.n then (c.bS c.n).m else 0
theorem Cd.bn_le (c : Cd) (HX : Wds c.X c.n) : c.bn ≤ 600 := by
  unfold Cd.bn
  split
  · rename_i h
    have h1 := (ok_of h HX).n1
    have h2 := (c.bi c.n).m
    have h1 : c.n ≤ 600 := h1
    omega
  · omega
set_option maxRecDepth 100000 in
set_option maxHeartbeats 2000000 in
theorem mblocksof (n a cap : Nat) (c : Cd) (hc : c.n = n) (w : World) (R : RowI w a n c.O c.D c.A c.B c.C c.X) (HX : Wds c.X n) (hn : n ≤ 1048576) : Calls Tryd.prog 31 #[.slice (some ⟨a, 0, none⟩) n cap] w fun e w' => ∃ u, e = .returned (.tuple #[u, .bool (goodC c.O c.D c.A c.B c.C c.X n)]) ∧ Ans w.heap.size w' u c.bn (Sb.ls (c.bS n)) ∧ Below w.heap.size w w' := by
  subst hc
  have h1 := good9 c.n a cap c.O c.D c.A c.B c.C c.X w R HX hn
  have H2 : Hid (goodC c.O c.D c.A c.B c.C c.X c.n = true → ∀ v, Below w.heap.size w v → Calls Tryd.prog 55 #[.slice (some ⟨a, 0, none⟩) c.n cap] v fun e w' => ∃ u p, e = .returned u ∧ Bm v.heap.size w' u (c.bS c.n) p ∧ Below v.heap.size v w') := fun hg v k => mblocks a cap c (ok_of hg HX) v (R.next k)
  have HN : Hid (c.bn = if goodC c.O c.D c.A c.B c.C c.X c.n then (c.bS c.n).m else 0) := rfl
  generalize goodC c.O c.D c.A c.B c.C c.X c.n = g at h1 H2 HN
  rw [HN.out]
  clear HN R HX hn
  generalize c.bS c.n = s at H2
  generalize c.n = n at h1 H2
  cases g
  · simp only [Bool.false_eq_true, if_false]
    go_enter Tryd.func31, Tryd.ntmps31
    go_wp2_with (go_at_call 33; refine h1.mono ?_; rintro e w1 ⟨rfl, B1⟩)
    go_ret2
    exact ⟨_, rfl, ⟨none, 0, fun _ => 0, fun _ => 0, rfl, ⟨fun x hx => by omega, fun x i hx => by omega, fun x i hx => by omega, fun x y i j hx => by omega, fun x i hx => by omega⟩⟩, B1⟩
  · simp only [if_true]
    have h2 := H2.out rfl
    clear H2
    go_enter Tryd.func31, Tryd.ntmps31
    go_wp2_with (first | (go_at_call 33; refine h1.mono ?_; rintro e w1 ⟨rfl, B1⟩) | (go_at_call 55; refine (h2 _ B1).mono ?_; rintro e w2 ⟨u2, p2, rfl, M2, B2⟩))
    go_ret2
    exact ⟨_, rfl, (M2.lower B1.size).ans, B1.trans (B2.mono B1.size)⟩
set_option maxRecDepth 100000 in
set_option maxHeartbeats 2000000 in
theorem pblocksof (n a cap : Nat) (c : Cd) (hc : c.n = n) (w : World) (G : Forms w) (R : RowI w a n c.O c.D c.A c.B c.C c.X) (HX : Wds c.X n) (hn : n ≤ 1048576) (hcap : n ≤ cap) : Calls Tryd.prog 32 #[.slice (some ⟨a, 0, none⟩) n cap] w fun e w' => ∃ u, e = .returned (.tuple #[u, .bool (goodC c.O c.D c.A c.B c.C c.X n)]) ∧ Ans w.heap.size w' u c.bn (Sb.ls (c.bS n)) ∧ Below w.heap.size w w' := by
  subst hc
  have h1 := good11 c.n a cap c.O c.D c.A c.B c.C c.X w G R HX hn
  have H2 : Hid (goodC c.O c.D c.A c.B c.C c.X c.n = true → ∀ v, Below w.heap.size w v → Calls Tryd.prog 57 #[.slice (some ⟨a, 0, none⟩) c.n cap] v fun e w' => ∃ u p, e = .returned u ∧ Bm v.heap.size w' u (c.bS c.n) p ∧ Below v.heap.size v w') := fun hg v k => pblocks a cap c (ok_of hg HX) v (R.next k) hcap
  have HN : Hid (c.bn = if goodC c.O c.D c.A c.B c.C c.X c.n then (c.bS c.n).m else 0) := rfl
  generalize goodC c.O c.D c.A c.B c.C c.X c.n = g at h1 H2 HN
  rw [HN.out]
  clear HN R HX hn
  generalize c.bS c.n = s at H2
  generalize c.n = n at h1 H2
  cases g
  · simp only [Bool.false_eq_true, if_false]
    go_enter Tryd.func32, Tryd.ntmps32
    go_wp2_with (go_at_call 56; refine h1.mono ?_; rintro e w1 ⟨rfl, B1⟩)
    go_ret2
    exact ⟨_, rfl, ⟨none, 0, fun _ => 0, fun _ => 0, rfl, ⟨fun x hx => by omega, fun x i hx => by omega, fun x i hx => by omega, fun x y i j hx => by omega, fun x i hx => by omega⟩⟩, B1⟩
  · simp only [if_true]
    have h2 := H2.out rfl
    clear H2
    go_enter Tryd.func32, Tryd.ntmps32
    go_wp2_with (first | (go_at_call 56; refine h1.mono ?_; rintro e w1 ⟨rfl, B1⟩) | (go_at_call 57; refine (h2 _ B1).mono ?_; rintro e w2 ⟨u2, p2, rfl, M2, B2⟩))
    go_ret2
    exact ⟨_, rfl, (M2.lower B1.size).ans, B1.trans (B2.mono B1.size)⟩
end Go.Proofs.YtcgapochcahknaaDoor
