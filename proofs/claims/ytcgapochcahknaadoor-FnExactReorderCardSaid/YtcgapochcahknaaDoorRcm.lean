/- The model's l12Reached. -/
import Derived.Test.YtcgapochcahknaaDoorRch
import Derived.Test.YtcgapochcahknaaDoorRwi
import Derived.Deep.LoopGhost
import Derived.Laws.AppendOwnNone
import Derived.OwnWalk
namespace Go.Proofs.YtcgapochcahknaaDoor
open Go.ChangeShapes Go.WideShapes Go.ChangeAt Go.RowKit
set_option linter.unusedVariables false
theorem wrap_small (m : Nat) (h : m ≤ 5000) : wrap64 (m : Int) = (m : Int) := by unfold wrap64; omega
theorem info4 : (Tryd.prog.info? 4).map (fun i => (i.zero, i.size, i.bytes)) = some (some (.bool false), 1, 1) := by kernel_rfl
theorem cnt_le (S : Nat → Bool) : ∀ n, cntF S n ≤ n
  | 0 => Nat.le_refl _
  | n + 1 => by have := cnt_le S n; rw [cntF]; split <;> omega
set_option maxRecDepth 100000 in
theorem tg_jump (d a b c x : Int) (w : World) : Calls Tryd.prog 91 #[.agg #[.int .i64 8, .int .i64 d, .int .i64 a, .int .i64 b, .int .i64 c, .int .u32 x]] w fun e w' => ∃ g, e = .returned (.slice (some ⟨g, 0, none⟩) 1 1) ∧ w'.cell? ⟨g, 0, none⟩ = some (.int .i64 a) ∧ Below w.heap.size w w' := by
  go_enter Tryd.func91, Tryd.ntmps91
  go_wp2
  go_ret
  exact ⟨_, rfl, by simp, ((Below.refl _ _).alloc (Nat.le_refl _) _).alloc (by simp) _⟩
set_option maxRecDepth 100000 in
theorem tg_zer (d a b c x : Int) (w : World) : Calls Tryd.prog 91 #[.agg #[.int .i64 9, .int .i64 d, .int .i64 a, .int .i64 b, .int .i64 c, .int .u32 x]] w fun e w' => ∃ g, e = .returned (.slice (some ⟨g, 0, none⟩) 2 2) ∧ (w'.cell? ⟨g, 0, none⟩ = some (.int .i64 b) ∧ w'.cell? ⟨g, 1, none⟩ = some (.int .i64 c)) ∧ Below w.heap.size w w' := by
  go_enter Tryd.func91, Tryd.ntmps91
  go_wp2
  go_ret
  exact ⟨_, rfl, ⟨by simp, by simp⟩, ((Below.refl _ _).alloc (Nat.le_refl _) _).alloc (by simp) _⟩
set_option maxRecDepth 100000 in
theorem tg_none (o d a b c x : Int) (w : World) (h8 : o ≠ 8) (h9 : o ≠ 9) : Calls Tryd.prog 91 #[.agg #[.int .i64 o, .int .i64 d, .int .i64 a, .int .i64 b, .int .i64 c, .int .u32 x]] w fun e w' => e = .returned (.slice none 0 0) ∧ Below w.heap.size w w' := by
  have f8 : (o == 8) = false := by simp [h8]
  have f9 : (o == 9) = false := by simp [h9]
  clear h8 h9
  go_enter Tryd.func91, Tryd.ntmps91
  go_wp2
  go_ret
  exact ⟨rfl, (Below.refl _ _).alloc (Nat.le_refl _) _⟩
theorem own_grown {w w' : World} {o n : Nat} {f : Nat → Value} {r : Option Nat} (h : Own w o n f) (g : w.grownBy w' r) (hr : some o ≠ r) : Own w' o n f :=
  ⟨fun i hi => (World.cell?_of_block (a := ⟨o, i, none⟩) (g.block o h.hi hr)).trans (h.cell i hi), fun i => (World.frozen?_of_block (a := ⟨o, i, none⟩) (g.block o h.hi hr)).trans (h.free i), Nat.lt_of_lt_of_le h.hi g.size⟩
theorem Ri.pre {B : Nat} {w : World} {g cap : Nat} {L : List Int} {t : Int} (h : Ri B w (.slice (some ⟨g, 0, none⟩) (L.length + 1) cap) (L ++ [t])) : Ri B w (.slice (some ⟨g, 0, none⟩) L.length cap) L := by
  obtain ⟨⟨h1, h2⟩, h3⟩ := h
  refine ⟨⟨by simp [il], ?_⟩, h3⟩
  rcases h2 with ⟨h4, _⟩ | ⟨g', cap', cur, hv, hB, hg, hn, hc, hs, ht⟩
  · cases h4
  · injection hv with hv1 hv2 hv3
    injection hv1 with hv1
    injection hv1 with hv1
    subst hv1 hv3
    refine Or.inr ⟨g, cap, cur, rfl, hB, hg, by simp at hn; omega, hc, hs, ?_⟩
    have e : (cur.toList.take ((L ++ [t]).length * 1)).take (L.length * 1) = (il (L ++ [t])).take (L.length * 1) := by rw [ht]
    rw [List.take_take, il_app, show min (L.length * 1) ((L ++ [t]).length * 1) = L.length * 1 by simp] at e
    rw [e, List.take_append_of_le_length (by simp [il])]
    exact List.take_of_length_le (by simp [il])
theorem Ri.more {B : Nat} {w w' : World} {v v' : Value} {L M : List Int} {m : Nat} (h : Ri B w v L) (hm : M.length = m) (k : w'.ownsRow B 3 1 v' (L.length + m) (il L ++ il M)) (hs : w.heap.size ≤ w'.heap.size) : Ri B w' v' (L ++ M) := by
  refine ⟨?_, Nat.le_trans h.2 hs⟩
  rw [List.length_append, hm, il_app]
  exact k
theorem Ri.put {B o j : Nat} {w : World} {v : Value} {L : List Int} (h : Ri B w v L) (ho : o < B) (u : Value) : Ri B (w.setCell ⟨o, j, none⟩ u) v L := by
  have k := (Only.refl o w).setCell j u
  exact ⟨h.1.kept (row := some o) ⟨k.os, k.tape, k.output, k.size, fun i hi hne => k.block i hi (fun e => hne (by rw [e]))⟩ (by
    cases e : v.ownBlock with
    | none => exact Or.inl rfl
    | some g => right; intro q; injection q with q; have := (h.1.lt g e).1; omega), Nat.le_trans h.2 k.size⟩
end Go.Proofs.YtcgapochcahknaaDoor
