/- Rows of values that a call itself made and what stays of them; rows of whole numbers counted, copied, compared; structs of two cells; moments at which a ray meets a block, without a program. -/
import Derived.Test.YtngmaeinehfimaaRows
import Derived.WalkKit
import Derived.ProofKit
import Derived.OpenShut
import Derived.WalkLawsBesides
import Derived.Laws.BitsAll
import Derived.Deep.QuietTactic
import Derived.Deep.RegionWith
import Derived.Deep.RegionHeld3
import Derived.Deep.Grids
import Derived.Carry
namespace Go.Proofs.Ytngmaeinehfimaa
open Go.ChangeShapes Go.WideShapes Go.ChangeAt Go.RowKit
set_option linter.unusedVariables false

/-- n cells of block o, from its head on: one value each; each may be written. -/
structure Own (w : World) (o n : Nat) (f : Nat → Value) : Prop where
  cell : ∀ i, i < n → w.cell? ⟨o, i, none⟩ = some (f i)
  free : ∀ i, w.frozen? ⟨o, i, none⟩ = false
  hi : o < w.heap.size
theorem Own.set {w : World} {o n : Nat} {f g : Nat → Value} (h : Own w o n f) (j : Nat) (v : Value) (hj : j < n) (hg : ∀ i, i < n → g i = if i = j then v else f i) : Own (w.setCell ⟨o, j, none⟩ v) o n g := by
  refine ⟨fun i hi => ?_, fun i => ?_, by simpa using h.hi⟩
  · rw [hg i hi]
    by_cases e : i = j
    · subst e
      rw [if_pos rfl]
      exact World.cell?_setCell_same' w _ _ (by rw [h.cell i hj]; rfl)
    · rw [if_neg e]
      have hne : (⟨o, j, none⟩ : Addr) ≠ ⟨o, i, none⟩ := by
        intro k; injection k with _ k2; exact e k2.symm
      rw [World.cell?_setCell_other (h := hne)]
      exact h.cell i hi
  · simp [h.free i]
theorem Own.mono {w : World} {o n m : Nat} {f g : Nat → Value} (h : Own w o n f) (hm : m ≤ n) (hg : ∀ i, i < m → g i = f i) : Own w o m g :=
  ⟨fun i hi => by rw [hg i hi]; exact h.cell i (by omega), h.free, h.hi⟩
/-- All blocks but one are as they were. -/
structure Only (o : Nat) (w w' : World) : Prop where
  os : w'.os = w.os
  tape : w'.tape = w.tape
  output : w'.output = w.output
  size : w.heap.size ≤ w'.heap.size
  block : ∀ k, k < w.heap.size → k ≠ o → w'.heap[k]? = w.heap[k]?
theorem Only.refl (o : Nat) (w : World) : Only o w w := ⟨rfl, rfl, rfl, Nat.le_refl _, fun _ _ _ => rfl⟩
theorem Only.trans {o : Nat} {a b c : World} (h : Only o a b) (k : Only o b c) : Only o a c :=
  ⟨k.os.trans h.os, k.tape.trans h.tape, k.output.trans h.output, Nat.le_trans h.size k.size, fun i hi ho => (k.block i (by have := h.size; omega) ho).trans (h.block i hi ho)⟩
theorem Only.setCell {o : Nat} {a w : World} (h : Only o a w) (j : Nat) (v : Value) : Only o a (w.setCell ⟨o, j, none⟩ v) :=
  h.trans ⟨rfl, rfl, rfl, by simp [World.setCell], fun k _ hk => Below.heap_setCell _ _ _ _ hk⟩
theorem Only.drewN {o : Nat} {a w : World} (h : Only o a w) (q : Nat) : Only o a (w.drewN q) := ⟨h.os, h.tape, h.output, h.size, h.block⟩
theorem Only.below {o B : Nat} {a w : World} (h : Only o a w) (hB : B ≤ o) (hs : B ≤ a.heap.size) : Below B a w := ⟨h.os, h.tape, h.output, h.size, fun k hk => h.block k (by omega) (by omega)⟩
theorem Only.ofBelow {o : Nat} {a w : World} (h : Below a.heap.size a w) : Only o a w := ⟨h.os, h.tape, h.output, h.size, fun k hk _ => h.block k hk⟩
theorem below_drewN {B : Nat} {a w : World} (h : Below B a w) (q : Nat) : Below B a (w.drewN q) := ⟨h.os, h.tape, h.output, h.size, h.block⟩
theorem drew2 (w : World) (a b : Nat) : (w.drewN a).drewN b = w.drewN (a + b) := by simp [World.drewN, Nat.add_assoc]
theorem Own.drewN {w : World} {o n : Nat} {f : Nat → Value} (h : Own w o n f) (q : Nat) : Own (w.drewN q) o n f := ⟨fun i hi => (h.cell i hi : w.cell? _ = _), fun i => h.free i, h.hi⟩
theorem Own.next {w w' : World} {o n : Nat} {f : Nat → Value} (h : Own w o n f) (hb : Below w.heap.size w w') : Own w' o n f := by
  have z := hb.size
  have zh := h.hi
  exact ⟨fun i hi => (hb.cell (p := ⟨o, i, none⟩) h.hi).trans (h.cell i hi), fun i => (hb.frozen (p := ⟨o, i, none⟩) h.hi).trans (h.free i), by omega⟩
theorem Own.but {w w' : World} {o p n : Nat} {f : Nat → Value} (h : Own w o n f) (hb : Only p w w') (hne : o ≠ p) : Own w' o n f := by
  have z := hb.size
  have zh := h.hi
  exact ⟨fun i hi => (World.cell?_of_block (w := w) (a := ⟨o, i, none⟩) (hb.block o zh hne)).trans (h.cell i hi), fun i => (World.frozen?_of_block (w := w) (a := ⟨o, i, none⟩) (hb.block o zh hne)).trans (h.free i), by omega⟩
theorem own_made {w : World} {B n t : Nat} {z : Value} {w' : World} (h : w'.ownsRow B t 1 (.slice (some ⟨w.heap.size, 0, none⟩) n n) n (madeCells #[z] (n * 1)).toList) : Own w' w.heap.size n (fun _ => z) := by
  refine ⟨fun i hi => ?_, fun i => h.frozenAt i, (h.lt _ rfl).2⟩
  rw [h.cellAt i (by omega)]
  simp [madeCells, hi, Nat.mod_one]
/-- A row behind appends: at most what is owned. -/
theorem own_owned {w : World} {B t g n cap : Nat} {xs : List Value} (h : w.ownsRow B t 1 (.slice (some ⟨g, 0, none⟩) n cap) n xs) (f : Nat → Value) (hf : ∀ i, i < n → xs[i]? = some (f i)) : Own w g n f :=
  ⟨fun i hi => by rw [h.cellAt i (by omega)]; exact hf i hi, fun i => h.frozenAt i, (h.lt _ rfl).2⟩
theorem Hid.mk {p : Prop} (h : p) : Hid p := h
theorem cell_nx {v v' : World} {p : Addr} {u : Value} (h : v.cell? p = some u) (k : Below v.heap.size v v') : v'.cell? p = some u := (k.cell (World.block_lt_of_cell? _ p h)).trans h
theorem alloc_b {v : World} {o : Obj} : Below v.heap.size v (v.alloc o) := (Below.refl _ _).alloc (Nat.le_refl _) _
theorem below_drew {B : Nat} {a w : World} (h : Below B a w) : Below B a w.drew := ⟨h.os, h.tape, h.output, h.size, h.block⟩
theorem below_grown {b : Nat} {w w1 w2 : World} {r : Option Nat} (h : Below b w w1) (hb : b ≤ w1.heap.size) (k : w1.grownBy w2 r) (hr : ∀ g, r = some g → b ≤ g) : Below b w w2 := h.grown k hb hr
theorem addr_ne {g o p : Nat} (h : o ≠ p) : (⟨g, o, none⟩ : Addr) ≠ ⟨g, p, none⟩ := fun e => h (by injection e)
theorem addr_ne' {g q o p : Nat} (h : g ≠ q) : (⟨g, o, none⟩ : Addr) ≠ ⟨q, p, none⟩ := fun e => h (by injection e)
def il (L : List Int) : List Value := L.map (Value.int .i64)
theorem info3 : (Try.prog.info? 3).map (fun i => (i.zero, i.size, i.bytes)) = some (some (.int .i64 0), 1, 8) := by kernel_rfl
/-- A row of whole numbers as it is read, wherever it lies. -/
def ARow (w : World) (v : Value) (L : List Int) : Prop := ∃ ad c, v = .slice ad L.length c ∧ ∀ i, i < L.length → ∃ g o, ad = some ⟨g, o, none⟩ ∧ w.cell? ⟨g, o + i, none⟩ = some (.int .i64 (L.getD i 0))
theorem ARow.next {w w' : World} {v : Value} {L : List Int} (h : ARow w v L) (b : Below w.heap.size w w') : ARow w' v L := by
  obtain ⟨ad, c, h1, h2⟩ := h
  refine ⟨ad, c, h1, fun i hi => ?_⟩
  obtain ⟨g, o, h3, h4⟩ := h2 i hi
  exact ⟨g, o, h3, cell_nx h4 b⟩
/-- A slice that came in: n elements at a; of an empty one nothing is asked. -/
def Arg (w : World) (a : Option Addr) (n : Nat) (f : Nat → Value) : Prop := n = 0 ∨ ∃ b off, a = some ⟨b, off, none⟩ ∧ b < w.heap.size ∧ ∀ i, i < n → w.cell? ⟨b, off + i, none⟩ = some (f i)
theorem Arg.next {w w' : World} {a : Option Addr} {n : Nat} {f : Nat → Value} (h : Arg w a n f) (hb : Below w.heap.size w w') : Arg w' a n f := by
  rcases h with h | ⟨b, off, ha, hl, hc⟩
  · exact Or.inl h
  · exact Or.inr ⟨b, off, ha, by have := hb.size; omega, fun i hi => (hb.cell (p := ⟨b, off + i, none⟩) hl).trans (hc i hi)⟩
theorem zero_wf (k : IntKind) : (Lit.int k 0).wf = true := by cases k <;> rfl
set_option maxRecDepth 100000 in
set_option maxHeartbeats 2000000 in
theorem eqI25 (n : Nat) (ada adb : Option Addr) (ca cb : Nat) (f : Nat → Int) (w : World) (hn : n ≤ 1048576) (ha0 : ∀ i, i < n → ∃ g o, ada = some ⟨g, o, none⟩ ∧ w.cell? ⟨g, o + i, none⟩ = some (.int .i64 (f i))) (hb0 : ∀ i, i < n → ∃ g o, adb = some ⟨g, o, none⟩ ∧ w.cell? ⟨g, o + i, none⟩ = some (.int .i64 (f i))) :
    Calls Try.prog 51 #[.slice ada n ca, .slice adb n cb] w fun r w' => r = .returned (.bool true) ∧ ∃ k, w' = w.drewN k := by
  have ha := Hid.mk ha0
  have hb := Hid.mk hb0
  clear ha0 hb0
  go_enter Try.func51, Try.ntmps51
  go_wp2
  go_loopw [5] (fun i wx => ∃ k q : Nat, k ≤ n ∧ i = .int .i64 k ∧ wx = w.drewN q) (fun i _ => n - (intOf i).toNat)
  case atStart => exact ⟨0, 0, by omega, rfl, rfl⟩
  case round =>
    obtain ⟨k, q, hk, rfl, rfl⟩ := hrel
    by_cases hkn : k < n
    · obtain ⟨ga, oa, rfl, c1⟩ := ha.out k hkn
      obtain ⟨gb, ob, rfl, c2⟩ := hb.out k hkn
      have i0 : (0 : Int) ≤ (k : Int) := by omega
      have i1 : (k : Int) < (n : Int) := by omega
      go_wp2
      go_quiet (fail)
      go_wp2
      go_roundw
      case rel => exact ⟨k + 1, _, by omega, by go_num, rfl⟩
      case measure => simp [intOf]; omega
    · have hkk : k = n := by omega
      subst hkk
      go_wp2
      go_ret
      exact ⟨rfl, q, rfl⟩
theorem eqA25 {w : World} {u v : Value} {L : List Int} (hn : L.length ≤ 1048576) (U : ARow w u L) (V : ARow w v L) : Calls Try.prog 51 #[u, v] w fun r w' => r = .returned (.bool true) ∧ ∃ k, w' = w.drewN k := by
  obtain ⟨a, c, rfl, h⟩ := U
  obtain ⟨a', c', rfl, h'⟩ := V
  exact eqI25 L.length a a' c c' (fun i => L.getD i 0) w hn h h'
theorem ARow.drewN {w : World} {v : Value} {L : List Int} (h : ARow w v L) (q : Nat) : ARow (w.drewN q) v L := h.next (below_drewN (Below.refl _ _) q)
def fl (f : Nat → Int) : Nat → List Int
  | 0 => []
  | k + 1 => fl f k ++ [f k]
theorem fl_len (f : Nat → Int) : ∀ k, (fl f k).length = k
  | 0 => rfl
  | k + 1 => by rw [fl, List.length_append, fl_len f k]; rfl
theorem fl_at (f : Nat → Int) : ∀ k i, i < k → (fl f k).getD i 0 = f i
  | 0, i, h => absurd h (Nat.not_lt_zero _)
  | k + 1, i, h => by
    rw [fl]
    by_cases e : i = k
    · subst e
      simp [List.getD, fl_len f i]
    · have := fl_at f k i (by omega)
      rw [← this]
      simp [List.getD, List.getElem?_append_left (show i < (fl f k).length by rw [fl_len]; omega)]
theorem own_arow {w : World} {g n cp : Nat} {f : Nat → Int} (O : Own w g n (fun i => .int .i64 (f i))) : ARow w (.slice (some ⟨g, 0, none⟩) n cp) (fl f n) := by
  refine ⟨some ⟨g, 0, none⟩, cp, by rw [fl_len], fun i hi => ⟨g, 0, rfl, ?_⟩⟩
  rw [fl_len] at hi
  rw [fl_at f n i hi, Nat.zero_add]
  exact O.cell i hi
section
variable {H : Type} {enc : TypeId × Value → H} {P : Program} {W : World} {base : Nat}
theorem view_ints {t e : TypeId} {k : IntKind} {v : Value} {d : DataW H} {p : List MemPlace} (ht : P.underlying t = some (.slice e)) (he : P.underlying e = some (.int k)) (hc : P.cellsOf e = 1)
    (hok : Value.okWide P W .any base t v) (h : DataW.Trod enc P W 0 (fun _ => true) true t v d p) (hlt : ∀ x ∈ p, x.block < W.heap.size) :
    ∃ (a : Option Addr) (len cap : Nat) (f : Nat → Int), v = .slice a len cap ∧ len ≤ 9223372036854775807 ∧ Arg W a len (fun i => .int k (f i)) ∧ ∀ i, (Lit.int k (f i)).wf = true := by
  obtain ⟨a0, len, cap, rfl⟩ := okWide_slice ht hok
  obtain ⟨fuel, hf⟩ := h
  rcases open_ints ht he hc hf with ⟨hcs, hx⟩ | ⟨a, len', cap', zs, hcs, _, hl, hm, hz, hx, hcell, hwz⟩
  · simp [Value.cells] at hcs
    obtain ⟨rfl, rfl, rfl⟩ := hcs
    exact ⟨_, 0, 0, fun _ => 0, rfl, by omega, Or.inl rfl, fun _ => zero_wf k⟩
  · simp [Value.cells] at hcs
    obtain ⟨rfl, rfl, rfl⟩ := hcs
    simp only [Prod.mk.injEq] at hx
    obtain ⟨rfl, rfl⟩ := hx
    simp only [if_true] at hz
    refine ⟨_, len, cap, fun i => zs.getD i 0, rfl, by unfold maxLen at hm; omega, ?_, fun i => ?_⟩
    · by_cases hl0 : len = 0
      · exact Or.inl hl0
      · obtain ⟨b, off, spot⟩ := a
        have hspot : spot = none := by simpa [Addr.add] using World.cell?_spot (hcell 0 (by omega))
        subst hspot
        have hbW : b < W.heap.size := hlt (.cell b off) (MemPlace.mem_row.2 ⟨0, by omega, by simp⟩)
        exact Or.inr ⟨b, off, rfl, hbW, fun j hj => by rw [← add_plain]; exact hcell j (by omega)⟩
    · show (Lit.int k (zs.getD i 0)).wf = true
      by_cases hi : i < zs.length
      · have e : zs.getD i 0 = zs[i] := by simp [List.getD, hi]
        rw [e]
        exact hwz _ (List.getElem_mem hi)
      · have e : zs.getD i 0 = 0 := by simp [List.getD, List.getElem?_eq_none (Nat.le_of_not_lt hi)]
        rw [e]
        exact zero_wf k
end
set_option maxRecDepth 100000 in
set_option maxHeartbeats 2000000 in
theorem toN27 {w : World} {a : Option Addr} {n : Nat} {f : Nat → Int} (h : Arg w a n (fun i => .int .i64 (f i))) (cap : Nat) (hn : n ≤ 1048576) : Calls Try.prog 49 #[.slice a n cap] w fun r w' => r = .returned (.slice (some ⟨w.heap.size, 0, none⟩) n n) ∧ Own w' w.heap.size n (fun i => .int .i64 (f i)) ∧ Below w.heap.size w w' := by
  obtain ⟨i3, hi3, hz30, hz31, hz32⟩ := info_parts info3
  have HA : Hid (∀ v, Below w.heap.size w v → ∀ k, k < n → ∃ b off, a = some ⟨b, off, none⟩ ∧ v.cell? ⟨b, off + k, none⟩ = some (.int .i64 (f k))) := fun v bv k hk => by
    rcases h with h | ⟨b, off, h1, h2, h3⟩
    · omega
    · exact ⟨b, off, h1, cell_nx (h3 k hk) bv⟩
  clear h
  go_enter Try.func49, Try.ntmps49
  go_wp2_with (at_make; refine wpList_make_full _ rfl _ _ 22 rfl w.heap.size 3 i3 (.int .i64 0) 1 Try.underlying22 hi3 hz30 hz31 _ _ _ _ n rfl rfl (by first | rfl | omega) (by first | rfl | omega) (by rw [hz32]; omega) (by unfold maxLen; omega) (by simp) ?_; intro w2 hown2 hgrow2)
  have O2 : Hid (Own w2 w.heap.size n (fun i => .int .i64 (if i < 0 then f i else 0))) := own_made hown2
  have B2 : Hid (Below w.heap.size w w2) := (Below.refl _ _).grown hgrow2 (Nat.le_refl _) (by simp)
  clear hown2 hgrow2
  go_loopw [4] (fun i wr => ∃ k : Nat, k ≤ n ∧ i = .int .i64 k ∧ Hid (Own wr w.heap.size n (fun i => .int .i64 (if i < k then f i else 0))) ∧ Hid (Below w.heap.size w wr)) (fun i _ => n - (intOf i).toNat)
  case atStart => exact ⟨0, Nat.zero_le _, rfl, O2, B2⟩
  case round =>
    obtain ⟨k, hk, rfl, HS, HB⟩ := hrel
    clear O2 B2
    by_cases hkn : k < n
    · have j1 : (k : Int) < (n : Int) := by omega
      have j0 : (0 : Int) ≤ (k : Int) := by omega
      obtain ⟨b, off, rfl, hc⟩ := HA.out wr HB.out k hkn
      have cs := HS.out.cell k hkn
      have fs := HS.out.free k
      have S1 : Hid (Own (wr.setCell ⟨w.heap.size, k, none⟩ (.int .i64 (f k))) w.heap.size n (fun i => .int .i64 (if i < k + 1 then f i else 0))) := HS.out.set k _ hkn (fun i hi => by
        by_cases e : i = k
        · subst e; rw [if_pos rfl, if_pos (by omega)]
        · rw [if_neg e]
          by_cases e2 : i < k
          · rw [if_pos e2, if_pos (by omega)]
          · rw [if_neg e2, if_neg (by omega)])
      have B1 : Hid (Below w.heap.size w (wr.setCell ⟨w.heap.size, k, none⟩ (.int .i64 (f k)))) := HB.out.setCell (p := ⟨w.heap.size, k, none⟩) (Nat.le_refl _) _
      clear HS HB
      go_wp2
      go_roundw
      case rel => exact ⟨k + 1, by omega, by go_num, S1, B1⟩
      case measure => simp [intOf]; omega
    · obtain rfl : n = k := by omega
      have j1 : ¬ (n : Int) < (n : Int) := by omega
      go_wp2
      go_ret
      exact ⟨rfl, HS.out.mono (Nat.le_refl _) (fun i hi => by rw [if_pos hi]), HB.out⟩
theorem arow_arg {w : World} {a : Option Addr} {n c : Nat} {L : List Int} (h : ARow w (.slice a n c) L) : Arg w a n (fun i => .int .i64 (L.getD i 0)) := by
  obtain ⟨ad, c', h1, h2⟩ := h
  injection h1 with h1 h3 h4
  subst h1; subst h3
  by_cases e : L.length = 0
  · exact Or.inl e
  · obtain ⟨g, o, rfl, hc⟩ := h2 0 (by omega)
    refine Or.inr ⟨g, o, rfl, World.block_lt_of_cell? _ _ hc, fun i hi => ?_⟩
    obtain ⟨g', o', e1, e2⟩ := h2 i hi
    injection e1 with e1
    injection e1 with e1 e3
    subst e1; subst e3
    exact e2
theorem szI (a : Option Addr) (l c : Nat) (z : Int) (w : World) (hl : l ≤ 9223372036854775807) (z0 : 0 ≤ z) (z1 : z ≤ 1048576) : Calls Try.prog 47 #[.slice a l c, .int .i64 z] w fun r w' => r = .returned (.int .i64 (if z < (l : Int) then -1 else z - l)) ∧ w' = w := by
  have e0 : IntKind.i64.wrap (z - (l : Int)) = z - (l : Int) := (IntKind.wrap_i64 _).trans (by omega)
  by_cases h : z < (l : Int)
  · have h1 : z - (l : Int) < 0 := by omega
    rw [if_pos h]
    go_enter Try.func47, Try.ntmps47
    go_wp2
    go_ret
    exact ⟨rfl, rfl⟩
  · have h1 : ¬ z - (l : Int) < 0 := by omega
    rw [if_neg h]
    go_enter Try.func47, Try.ntmps47
    go_wp2
    go_ret
    exact ⟨rfl, rfl⟩
/-- A struct of 2 cells at the head of a block. -/
structure C2 (w : World) (b : Nat) (v0 v1 : Value) : Prop where
  c0 : w.cell? ⟨b, 0, none⟩ = some v0
  c1 : w.cell? ⟨b, 1, none⟩ = some v1
  f : ∀ i, w.frozen? ⟨b, i, none⟩ = false
  hi : b < w.heap.size
theorem C2.new (w : World) (t : TypeId) (v0 v1 : Value) : C2 (w.alloc (.cells #[v0, v1] t)) w.heap.size v0 v1 := ⟨by simp, by simp, fun i => by simp, by simp⟩
theorem C2.next {w w' : World} {b : Nat} {v0 v1 : Value} (h : C2 w b v0 v1) (k : Below w.heap.size w w') : C2 w' b v0 v1 := ⟨cell_nx h.c0 k, cell_nx h.c1 k, fun i => (k.frozen (p := ⟨b, i, none⟩) h.hi).trans (h.f i), by have := k.size; have := h.hi; omega⟩
theorem C2.block {w w' : World} {b : Nat} {v0 v1 : Value} (h : C2 w b v0 v1) (k : w'.heap[b]? = w.heap[b]?) (hs : w.heap.size ≤ w'.heap.size) : C2 w' b v0 v1 := ⟨(World.cell?_of_block (w := w) (a := ⟨b, 0, none⟩) k).trans h.c0, (World.cell?_of_block (w := w) (a := ⟨b, 1, none⟩) k).trans h.c1, fun i => (World.frozen?_of_block (w := w) (a := ⟨b, i, none⟩) k).trans (h.f i), by have := h.hi; omega⟩
def set2 (w : World) (b : Nat) (u0 u1 : Value) : World := ((w.setCell ⟨b, 0, none⟩ u0).setCell ⟨b, 1, none⟩ u1)
theorem only_set2 (w : World) (b : Nat) (u0 u1 : Value) : Only b w (set2 w b u0 u1) := by
  unfold set2
  exact ((Only.refl _ _).setCell _ _).setCell _ _
theorem C2.s0 {w : World} {b : Nat} {v0 v1 : Value} (h : C2 w b v0 v1) (x : Value) : C2 (w.setCell ⟨b, 0, none⟩ x) b x v1 := ⟨World.cell?_setCell_same' _ _ _ (by rw [h.c0]; rfl), by rw [World.cell?_setCell_other (h := addr_ne (by decide))]; exact h.c1, fun i => by simp [h.f i], by simpa using h.hi⟩
theorem C2.s1 {w : World} {b : Nat} {v0 v1 : Value} (h : C2 w b v0 v1) (x : Value) : C2 (w.setCell ⟨b, 1, none⟩ x) b v0 x := ⟨by rw [World.cell?_setCell_other (h := addr_ne (by decide))]; exact h.c0, World.cell?_setCell_same' _ _ _ (by rw [h.c1]; rfl), fun i => by simp [h.f i], by simpa using h.hi⟩
theorem C2.put {w : World} {b : Nat} {v0 v1 : Value} (h : C2 w b v0 v1) (u0 u1 : Value) : C2 (set2 w b u0 u1) b u0 u1 := ((h.s0 u0).s1 u1)
/-- A fraction's parts without a divisor in common. -/
def rdN (n d : Int) : Int := n / (Int.gcd n d : Int)
def rdD (n d : Int) : Int := d / (Int.gcd n d : Int)
theorem gcd_pos {n d : Int} (h : 0 < d) : 0 < (Int.gcd n d : Int) := by
  have : 0 < Int.gcd n d := Int.gcd_pos_of_ne_zero_right n (by omega)
  omega
theorem rdN_mul {n d : Int} : (Int.gcd n d : Int) * rdN n d = n := Int.mul_ediv_cancel' (Int.gcd_dvd_left n d)
theorem rdD_mul {n d : Int} : (Int.gcd n d : Int) * rdD n d = d := Int.mul_ediv_cancel' (Int.gcd_dvd_right n d)
theorem rdD_pos {n d : Int} (h : 0 < d) : 0 < rdD n d := by
  have g := gcd_pos (n := n) h
  have e := rdD_mul (n := n) (d := d)
  by_cases hz : 0 < rdD n d
  · exact hz
  · have := Int.mul_le_mul_of_nonneg_left (show rdD n d ≤ 0 by omega) (Int.le_of_lt g)
    rw [e] at this
    omega
theorem le_mul {g x : Int} (g0 : 0 < g) (x0 : 0 ≤ x) : x ≤ g * x := by
  have := Int.mul_le_mul_of_nonneg_right (show 1 ≤ g by omega) x0
  omega
theorem rdD_le {n d : Int} (h : 0 < d) : rdD n d ≤ d := by
  have := le_mul (gcd_pos (n := n) h) (Int.le_of_lt (rdD_pos (n := n) h))
  rw [rdD_mul] at this
  exact this
theorem rdN_bnd {n d B : Int} (h : 0 < d) (hn : -B ≤ n ∧ n ≤ B) : -B ≤ rdN n d ∧ rdN n d ≤ B := by
  have g := gcd_pos (n := n) h
  have e := rdN_mul (n := n) (d := d)
  by_cases hz : 0 ≤ rdN n d
  · have := le_mul g hz
    rw [e] at this
    omega
  · have := le_mul g (show 0 ≤ - rdN n d by omega)
    rw [Int.mul_neg, e] at this
    omega
theorem rdN_nn {n d : Int} (hn : 0 ≤ n) : 0 ≤ rdN n d := Int.ediv_nonneg hn (Int.natCast_nonneg _)
theorem mul_swap4 (a b c d : Int) : (a * b) * (c * d) = (a * c) * (b * d) := by
  rw [Int.mul_assoc, Int.mul_assoc, Int.mul_left_comm b c d]
theorem rd_lt {n d p q : Int} (hd : 0 < d) (hq : 0 < q) : rdN n d * rdD p q < rdN p q * rdD n d ↔ n * q < p * d := by
  have g := gcd_pos (n := n) hd
  have k := gcd_pos (n := p) hq
  have gk : 0 < (Int.gcd n d : Int) * (Int.gcd p q : Int) := Int.mul_pos g k
  have e1 : n * q = ((Int.gcd n d : Int) * (Int.gcd p q : Int)) * (rdN n d * rdD p q) := by
    rw [mul_swap4, rdN_mul, rdD_mul]
  have e2 : p * d = ((Int.gcd n d : Int) * (Int.gcd p q : Int)) * (rdN p q * rdD n d) := by
    rw [Int.mul_comm (Int.gcd n d : Int), mul_swap4, rdN_mul, rdD_mul]
  rw [e1, e2]
  exact ⟨fun h => Int.mul_lt_mul_of_pos_left h gk, fun h => Int.lt_of_mul_lt_mul_left h (Int.le_of_lt gk)⟩
/-- Euclid's step. -/
theorem gcd_step {a b : Int} (ha : 0 ≤ a) (hb : 0 < b) : Int.gcd b (a % b) = Int.gcd a b := by
  obtain ⟨m, rfl⟩ := Int.eq_ofNat_of_zero_le ha
  obtain ⟨n, rfl⟩ := Int.eq_ofNat_of_zero_le (Int.le_of_lt hb)
  rw [← Int.natCast_emod, Int.gcd_natCast_natCast, Int.gcd_natCast_natCast, Nat.gcd_comm m n, Nat.gcd_rec n m, Nat.gcd_comm]
/-- When a ray comes to the nearer side along an axis; the farther side. -/
def cD (w : Int) : Int := if 0 < w then w else if w < 0 then -w else 1
def cN (lo hi f w : Int) : Int := if 0 < w then lo - f else if w < 0 then f - hi else 0
def zN (lo hi f w : Int) : Int := if 0 < w then hi - f else if w < 0 then f - lo else 0
theorem cD_pos (w : Int) : 0 < cD w := by unfold cD; split <;> (try split) <;> omega
/-- The greatest of the moments, 0 at least. -/
def fst (L H F W : Nat → Int) : Nat → Int × Int
  | 0 => (0, 1)
  | k + 1 => if (fst L H F W k).1 * cD (W k) < cN (L k) (H k) (F k) (W k) * (fst L H F W k).2 then (cN (L k) (H k) (F k) (W k), cD (W k)) else fst L H F W k
theorem fst_pos (L H F W : Nat → Int) : ∀ k, 0 < (fst L H F W k).2 ∧ 0 ≤ (fst L H F W k).1
  | 0 => ⟨by simp [fst], by simp [fst]⟩
  | k + 1 => by
    have h := fst_pos L H F W k
    rw [fst]
    split
    · rename_i hx
      refine ⟨cD_pos _, ?_⟩
      have h1 : 0 ≤ (fst L H F W k).1 * cD (W k) := Int.mul_nonneg h.2 (Int.le_of_lt (cD_pos _))
      by_cases hz : 0 ≤ cN (L k) (H k) (F k) (W k)
      · exact hz
      · have := Int.mul_le_mul_of_nonneg_right (show cN (L k) (H k) (F k) (W k) ≤ 0 by omega) (Int.le_of_lt h.1)
        simp at this
        simp only
        omega
    · exact h
/-- All places are in the cube. -/
def InC (n : Nat) (F : Nat → Int) : Prop := ∀ i, i < n → -1000 ≤ F i ∧ F i ≤ 1000
theorem cD_le {w : Int} (h : -1000 ≤ w ∧ w ≤ 1000) : cD w ≤ 1000 := by unfold cD; split <;> (try split) <;> omega
theorem cN_bnd {lo hi f w : Int} (h1 : -1000 ≤ lo ∧ lo ≤ 1000) (h2 : -1000 ≤ hi ∧ hi ≤ 1000) (h3 : -1000 ≤ f ∧ f ≤ 1000) : -2000 ≤ cN lo hi f w ∧ cN lo hi f w ≤ 2000 := by unfold cN; split <;> (try split) <;> omega
theorem fst_bnd {n : Nat} {L H F W : Nat → Int} (hL : InC n L) (hH : InC n H) (hF : InC n F) (hW : InC n W) : ∀ k, k ≤ n → (fst L H F W k).2 ≤ 1000 ∧ (fst L H F W k).1 ≤ 2000
  | 0, _ => ⟨by simp [fst], by simp [fst]⟩
  | k + 1, hk => by
    have h := fst_bnd hL hH hF hW k (by omega)
    rw [fst]
    split
    · exact ⟨cD_le (hW k (by omega)), (cN_bnd (hL k (by omega)) (hH k (by omega)) (hF k (by omega))).2⟩
    · exact h
/-- Each moment is not above the greatest. -/
theorem le_fst (L H F W : Nat → Int) : ∀ k i, i < k → cN (L i) (H i) (F i) (W i) * (fst L H F W k).2 ≤ (fst L H F W k).1 * cD (W i)
  | 0, _, h => by omega
  | k + 1, i, hi => by
    rw [fst]
    by_cases hik : i = k
    · subst hik
      split
      · simp only; exact Int.le_refl _
      · rename_i hx; omega
    · have h := le_fst L H F W k i (by omega)
      split
      · rename_i hx
        simp only
        have p0 := (fst_pos L H F W k).1
        have p1 := cD_pos (W i)
        have p2 := cD_pos (W k)
        generalize (fst L H F W k).1 = n at h hx
        generalize (fst L H F W k).2 = d at h hx p0
        generalize cN (L i) (H i) (F i) (W i) = a at h
        generalize cN (L k) (H k) (F k) (W k) = c at hx ⊢
        generalize cD (W i) = e at h p1 ⊢
        generalize cD (W k) = g at hx p2 ⊢
        -- a * d ≤ n * e, n * g < c * d ⊢ a * g ≤ c * e
        have h1 : a * d * g ≤ n * e * g := Int.mul_le_mul_of_nonneg_right h (Int.le_of_lt p2)
        have h2 : n * g * e ≤ c * d * e := Int.mul_le_mul_of_nonneg_right (Int.le_of_lt hx) (Int.le_of_lt p1)
        have h3 : (a * g) * d ≤ (c * e) * d := by
          rw [Int.mul_right_comm a g d, Int.mul_right_comm c e d]
          rw [Int.mul_right_comm n e g] at h1
          omega
        exact Int.le_of_mul_le_mul_right h3 p0
      · exact h
/-- Within a block along an axis at a moment. -/
def wiI (lo hi f w n d : Int) : Bool := decide (lo * d ≤ f * d + w * n) && decide (f * d + w * n ≤ hi * d)
def wiA (L H F W : Nat → Int) (n d : Int) : Nat → Bool
  | 0 => true
  | k + 1 => wiA L H F W n d k && wiI (L k) (H k) (F k) (W k) n d
theorem wiA_iff (L H F W : Nat → Int) (n d : Int) : ∀ k, wiA L H F W n d k = true ↔ ∀ i, i < k → wiI (L i) (H i) (F i) (W i) n d = true
  | 0 => by simp [wiA]
  | k + 1 => by
    rw [wiA, Bool.and_eq_true, wiA_iff L H F W n d k]
    exact ⟨fun ⟨h, g⟩ i hi => if hk : i = k then hk ▸ g else h i (by omega), fun h => ⟨fun i hi => h i (by omega), h k (by omega)⟩⟩
theorem wiI_iff {lo hi f w n d : Int} (d0 : 0 < d) (hc : w ≠ 0 → cN lo hi f w * d ≤ n * cD w) : wiI lo hi f w n d = true ↔ (w = 0 → lo ≤ f ∧ f ≤ hi) ∧ (w ≠ 0 → n * cD w ≤ zN lo hi f w * d) := by
  unfold wiI
  rw [Bool.and_eq_true, decide_eq_true_eq, decide_eq_true_eq]
  have hcase : w = 0 ∨ 0 < w ∨ w < 0 := by omega
  rcases hcase with rfl | h | h
  · simp
    exact ⟨fun ⟨a, b⟩ => ⟨Int.le_of_mul_le_mul_right a d0, Int.le_of_mul_le_mul_right b d0⟩, fun ⟨a, b⟩ => ⟨Int.mul_le_mul_of_nonneg_right a (Int.le_of_lt d0), Int.mul_le_mul_of_nonneg_right b (Int.le_of_lt d0)⟩⟩
  · have hc := hc (by omega)
    unfold cN cD at hc
    unfold cD zN
    rw [if_pos h] at hc ⊢
    rw [if_pos h] at hc ⊢
    rw [Int.sub_mul, Int.mul_comm n w] at hc ⊢
    generalize w * n = x at hc ⊢
    generalize f * d = y at hc ⊢
    constructor
    · intro ⟨a, b⟩; exact ⟨fun e => by omega, fun _ => by omega⟩
    · intro ⟨_, b⟩; have := b (by omega); omega
  · have hc := hc (by omega)
    unfold cN cD at hc
    unfold cD zN
    rw [if_neg (by omega), if_pos h] at hc ⊢
    rw [if_neg (by omega), if_pos h] at hc ⊢
    rw [Int.sub_mul, Int.mul_neg, Int.mul_comm n w] at hc ⊢
    generalize w * n = x at hc ⊢
    generalize f * d = y at hc ⊢
    constructor
    · intro ⟨a, b⟩; exact ⟨fun e => by omega, fun _ => by omega⟩
    · intro ⟨_, b⟩; have := b (by omega); omega
/-- A ray hits a block. -/
def hiB (L H F W : Nat → Int) : Bool := wiA L H F W (fst L H F W 3).1 (fst L H F W 3).2 3
theorem hiB_iff (L H F W : Nat → Int) : hiB L H F W = true ↔ (∀ i, i < 3 → W i = 0 → L i ≤ F i ∧ F i ≤ H i) ∧ ∀ i, i < 3 → W i ≠ 0 → (fst L H F W 3).1 * cD (W i) ≤ zN (L i) (H i) (F i) (W i) * (fst L H F W 3).2 := by
  unfold hiB
  rw [wiA_iff]
  have p := (fst_pos L H F W 3).1
  constructor
  · intro h
    exact ⟨fun i hi => ((wiI_iff p (fun _ => le_fst L H F W 3 i hi)).1 (h i hi)).1, fun i hi => ((wiI_iff p (fun _ => le_fst L H F W 3 i hi)).1 (h i hi)).2⟩
  · intro ⟨h1, h2⟩ i hi
    exact (wiI_iff p (fun _ => le_fst L H F W 3 i hi)).2 ⟨h1 i hi, h2 i hi⟩
/-- The least of the moments of the farther sides, of k axes. -/
def Mn (L H F W : Nat → Int) (k : Nat) (p q : Int) : Prop := 0 < q ∧ ∀ n d : Int, 0 < d → (¬ p * d < n * q ↔ ∀ i, i < k → W i ≠ 0 → n * cD (W i) ≤ zN (L i) (H i) (F i) (W i) * d)
theorem rd_le {n d a e : Int} (he : 0 < e) (hd : 0 < d) : (¬ rdN a e * d < n * rdD a e) ↔ n * e ≤ a * d := by
  have g := gcd_pos (n := a) he
  have e1 : a * d = (Int.gcd a e : Int) * (rdN a e * d) := by rw [← Int.mul_assoc, rdN_mul]
  have e2 : n * e = (Int.gcd a e : Int) * (n * rdD a e) := by rw [Int.mul_left_comm, rdD_mul]
  rw [e1, e2, Int.not_lt]
  exact ⟨fun h => Int.mul_le_mul_of_nonneg_left h (Int.le_of_lt g), fun h => Int.le_of_mul_le_mul_left h g⟩
theorem Mn.first {L H F W : Nat → Int} {k : Nat} (h0 : ∀ i, i < k → W i = 0) (hk : W k ≠ 0) : Mn L H F W (k + 1) (rdN (zN (L k) (H k) (F k) (W k)) (cD (W k))) (rdD (zN (L k) (H k) (F k) (W k)) (cD (W k))) := by
  refine ⟨rdD_pos (cD_pos _), fun n d hd => ?_⟩
  rw [rd_le (cD_pos _) hd]
  constructor
  · intro h i hi hw
    by_cases hik : i = k
    · subst hik; exact h
    · exact absurd (h0 i (by omega)) hw
  · intro h; exact h k (by omega) hk
theorem Mn.skip {L H F W : Nat → Int} {k : Nat} {p q : Int} (h : Mn L H F W k p q) (hk : W k = 0) : Mn L H F W (k + 1) p q := by
  refine ⟨h.1, fun n d hd => ?_⟩
  rw [h.2 n d hd]
  exact ⟨fun g i hi hw => if hik : i = k then absurd (hik ▸ hk) hw else g i (by omega) hw, fun g i hi => g i (by omega)⟩
/-- Of two fractions the less one. -/
theorem lt_lt {p q a e n d : Int} (hq : 0 < q) (he : 0 < e) (h : a * q < p * e) (hd : 0 < d) (hn : ¬ a * d < n * e) : ¬ p * d < n * q := by
  intro hx
  have h1 : (n * e) * q ≤ (a * d) * q := Int.mul_le_mul_of_nonneg_right (by omega) (Int.le_of_lt hq)
  have h2 : (p * d) * e < (n * q) * e := Int.mul_lt_mul_of_pos_right hx he
  have h3 : (a * q) * d < (p * e) * d := Int.mul_lt_mul_of_pos_right h hd
  rw [Int.mul_right_comm n e q, Int.mul_right_comm a d q] at h1
  rw [Int.mul_right_comm p d e] at h2
  omega
theorem ge_ge {p q a e n d : Int} (hq : 0 < q) (he : 0 < e) (h : ¬ a * q < p * e) (hd : 0 < d) (hn : ¬ p * d < n * q) : ¬ a * d < n * e := by
  intro hx
  have h1 : (n * q) * e ≤ (p * d) * e := Int.mul_le_mul_of_nonneg_right (by omega) (Int.le_of_lt he)
  have h2 : (a * d) * q < (n * e) * q := Int.mul_lt_mul_of_pos_right hx hq
  have h3 : (p * e) * d ≤ (a * q) * d := Int.mul_le_mul_of_nonneg_right (by omega) (Int.le_of_lt hd)
  rw [Int.mul_right_comm n q e, Int.mul_right_comm p d e] at h1
  rw [Int.mul_right_comm a d q] at h2
  omega
theorem Mn.step {L H F W : Nat → Int} {k : Nat} {p q a e : Int} (h : Mn L H F W k p q) (hk : W k ≠ 0) (ha : a = rdN (zN (L k) (H k) (F k) (W k)) (cD (W k))) (he : e = rdD (zN (L k) (H k) (F k) (W k)) (cD (W k))) :
    (a * q < p * e → Mn L H F W (k + 1) a e) ∧ (¬ a * q < p * e → Mn L H F W (k + 1) p q) := by
  have e0 : 0 < e := he ▸ rdD_pos (cD_pos _)
  have hz : ∀ n d, 0 < d → (¬ a * d < n * e ↔ n * cD (W k) ≤ zN (L k) (H k) (F k) (W k) * d) := fun n d hd => by rw [ha, he]; exact rd_le (cD_pos _) hd
  constructor
  · intro hl
    refine ⟨e0, fun n d hd => ⟨fun g i hi hw => ?_, fun g => (hz n d hd).2 (g k (by omega) hk)⟩⟩
    by_cases hik : i = k
    · subst hik; exact (hz n d hd).1 g
    · exact (h.2 n d hd).1 (lt_lt h.1 e0 hl hd g) i (by omega) hw
  · intro hl
    refine ⟨h.1, fun n d hd => ⟨fun g i hi hw => ?_, fun g => (h.2 n d hd).2 (fun i hi => g i (by omega))⟩⟩
    by_cases hik : i = k
    · subst hik; exact (hz n d hd).1 (ge_ge h.1 e0 hl hd g)
    · exact (h.2 n d hd).1 g i (by omega) hw
/-- What the model answers at the end. -/
theorem hi_end {L H F W : Nat → Int} {p q : Int} (hw : ∀ i, i < 3 → W i = 0 → L i ≤ F i ∧ F i ≤ H i) (h : Mn L H F W 3 p q) : hiB L H F W = !decide (p * rdD (fst L H F W 3).1 (fst L H F W 3).2 < rdN (fst L H F W 3).1 (fst L H F W 3).2 * q) := by
  have p0 := (fst_pos L H F W 3).1
  have hx : hiB L H F W = true ↔ ¬ p * rdD (fst L H F W 3).1 (fst L H F W 3).2 < rdN (fst L H F W 3).1 (fst L H F W 3).2 * q := by
    rw [hiB_iff, h.2 _ _ (rdD_pos p0)]
    have e1 := rdN_mul (n := (fst L H F W 3).1) (d := (fst L H F W 3).2)
    have e2 := rdD_mul (n := (fst L H F W 3).1) (d := (fst L H F W 3).2)
    have g := gcd_pos (n := (fst L H F W 3).1) p0
    have key : ∀ c z : Int, (fst L H F W 3).1 * c ≤ z * (fst L H F W 3).2 ↔ rdN (fst L H F W 3).1 (fst L H F W 3).2 * c ≤ z * rdD (fst L H F W 3).1 (fst L H F W 3).2 := fun c z => by
      generalize rdN (fst L H F W 3).1 (fst L H F W 3).2 = rn at e1
      generalize rdD (fst L H F W 3).1 (fst L H F W 3).2 = rd at e2
      generalize ((fst L H F W 3).1.gcd (fst L H F W 3).2 : Int) = gg at e1 e2 g
      generalize (fst L H F W 3).1 = n at e1
      generalize (fst L H F W 3).2 = d at e2
      rw [← e1, ← e2, Int.mul_assoc, Int.mul_left_comm z gg rd]
      exact ⟨fun h => Int.le_of_mul_le_mul_left h g, fun h => Int.mul_le_mul_of_nonneg_left h (Int.le_of_lt g)⟩
    exact ⟨fun ⟨_, a⟩ i hi hw => (key _ _).1 (a i hi hw), fun a => ⟨hw, fun i hi hw => (key _ _).2 (a i hi hw)⟩⟩
  cases hb : hiB L H F W
  · rw [hb] at hx
    have : p * rdD (fst L H F W 3).1 (fst L H F W 3).2 < rdN (fst L H F W 3).1 (fst L H F W 3).2 * q := by
      by_cases hq : p * rdD (fst L H F W 3).1 (fst L H F W 3).2 < rdN (fst L H F W 3).1 (fst L H F W 3).2 * q
      · exact hq
      · exact absurd (hx.2 hq) (by decide)
    rw [decide_eq_true this]; rfl
  · rw [hb] at hx
    rw [decide_eq_false (hx.1 rfl)]; rfl
theorem toA {w : World} {u : Value} {L : List Int} (U : ARow w u L) (hn : L.length ≤ 1048576) : Calls Try.prog 49 #[u] w fun r w' => r = .returned (.slice (some ⟨w.heap.size, 0, none⟩) L.length L.length) ∧ ARow w' (.slice (some ⟨w.heap.size, 0, none⟩) L.length L.length) L ∧ Below w.heap.size w w' := by
  obtain ⟨ad, c, rfl, hx⟩ := U
  have A : Arg w ad L.length (fun i => .int .i64 (L.getD i 0)) := arow_arg ⟨ad, c, rfl, hx⟩
  exact (toN27 A c hn).mono fun e w' ⟨h1, h2, h3⟩ => ⟨h1, ⟨_, _, rfl, fun i hi => ⟨w.heap.size, 0, rfl, by rw [Nat.zero_add]; exact h2.cell i hi⟩⟩, h3⟩
theorem szA {w : World} {u : Value} {L : List Int} (U : ARow w u L) (hl : L.length ≤ 9223372036854775807) (z : Int) (z0 : 0 ≤ z) (z1 : z ≤ 1048576) : Calls Try.prog 47 #[u, .int .i64 z] w fun r w' => r = .returned (.int .i64 (if z < (L.length : Int) then -1 else z - L.length)) ∧ w' = w := by
  obtain ⟨ad, c, rfl, hx⟩ := U
  exact szI ad _ c z w hl z0 z1
end Go.Proofs.Ytngmaeinehfimaa
