/- Numbers as bytes, the lowest first: the program's bytesOfNumber, the model's l10Low, both checks (Crc); conditions: words of 32 bits, the row stands in memory. -/
import Derived.Test.YtcgapochcahknaaDoorByt
import Derived.Deep.AppendLies
import Derived.Laws.AppendOwn
namespace Go.Proofs.YtcgapochcahknaaDoor
open Go.ChangeShapes Go.WideShapes Go.ChangeAt Go.RowKit
set_option linter.unusedVariables false
def byteOf (v : Int) (b : Nat) : Int := v / 256 ^ b % 256
theorem byteOf_range (v : Int) (b : Nat) : 0 ≤ byteOf v b ∧ byteOf v b < 256 := ⟨Int.emod_nonneg _ (by omega), Int.emod_lt_of_pos _ (by omega)⟩
/-- The n lowest bytes of a number. -/
def lows (x : Int) (n : Nat) : List Int := (List.range n).map (byteOf x)
theorem lows_len (x : Int) (n : Nat) : (lows x n).length = n := by simp [lows]
theorem lows_succ (x : Int) (n : Nat) : lows x (n + 1) = lows x n ++ [byteOf x n] := by unfold lows; rw [List.range_succ, List.map_append]; rfl
def bl (L : List Int) : List Value := L.map (Value.int .u8)
theorem bl_app (a b : List Int) : bl (a ++ b) = bl a ++ bl b := List.map_append
/-- One row has grown: what is older, and not it, is as it was. -/
structure Gro (w : World) (v : Value) (w' : World) (v' : Value) : Prop where
  grown : w.grownBy w' v.ownBlock
  own : v'.ownBlock = v.ownBlock ∨ ∃ g, v'.ownBlock = some g ∧ w.heap.size ≤ g
theorem Gro.refl (w : World) (v : Value) : Gro w v w v := ⟨⟨rfl, rfl, rfl, Nat.le_refl _, fun _ _ _ => rfl⟩, Or.inl rfl⟩
theorem Gro.trans {a b c : World} {u v x : Value} (h : Gro a u b v) (k : Gro b v c x) : Gro a u c x := by
  refine ⟨⟨k.grown.os.trans h.grown.os, k.grown.tape.trans h.grown.tape, k.grown.output.trans h.grown.output, Nat.le_trans h.grown.size k.grown.size, fun i hi hn => ?_⟩, ?_⟩
  · refine (k.grown.block i (Nat.lt_of_lt_of_le hi h.grown.size) ?_).trans (h.grown.block i hi hn)
    rcases h.own with e | ⟨g, e, hg⟩
    · rw [e]; exact hn
    · rw [e]; intro q; injection q with q; omega
  · rcases k.own with e | ⟨g, e, hg⟩
    · rcases h.own with e' | ⟨g, e', hg⟩
      · exact Or.inl (e.trans e')
      · exact Or.inr ⟨g, e.trans e', hg⟩
    · exact Or.inr ⟨g, e, Nat.le_trans h.grown.size hg⟩
theorem Gro.next {a b c : World} {u v : Value} (h : Gro a u b v) (k : Below b.heap.size b c) : Gro a u c v := h.trans ⟨⟨k.os, k.tape, k.output, k.size, fun i hi _ => k.block i hi⟩, Or.inl rfl⟩
theorem Gro.alloc {a b : World} {u v : Value} (h : Gro a u b v) (o : Obj) : Gro a u (b.alloc o) v := h.next ((Below.refl _ _).alloc (Nat.le_refl _) _)
theorem Gro.below {B : Nat} {w w' : World} {v v' : Value} (h : Gro w v w' v') (hB : B ≤ w.heap.size) (hv : ∀ g, v.ownBlock = some g → B ≤ g) : Below B w w' :=
  ⟨h.grown.os, h.grown.tape, h.grown.output, h.grown.size, fun k hk => h.grown.block k (by omega) (fun e => by have := hv k e.symm; omega)⟩
theorem Gro.cell {w w' : World} {v v' : Value} (h : Gro w v w' v') {o i : Nat} {x : Value} (hc : w.cell? ⟨o, i, none⟩ = some x) (ho : some o ≠ v.ownBlock) : w'.cell? ⟨o, i, none⟩ = some x :=
  (World.cell?_of_block (w := w) (a := ⟨o, i, none⟩) (h.grown.block o (World.block_lt_of_cell? _ ⟨o, i, none⟩ hc) ho)).trans hc
/-- A row of bytes that a call is making. -/
def Rb (B : Nat) (w : World) (v : Value) (L : List Int) : Prop := w.ownsRow B 5 1 v L.length (bl L) ∧ B ≤ w.heap.size
theorem Rb.next {B : Nat} {w w' : World} {v : Value} {L : List Int} (h : Rb B w v L) (b : Below w.heap.size w w') : Rb B w' v L :=
  ⟨h.1.kept (row := none) ⟨b.os, b.tape, b.output, b.size, fun i hi _ => b.block i hi⟩ (by cases e : v.ownBlock <;> simp), Nat.le_trans h.2 b.size⟩
theorem Rb.alloc {B : Nat} {w : World} {v : Value} {L : List Int} (h : Rb B w v L) (o : Obj) : Rb B (w.alloc o) v L := h.next ((Below.refl _ _).alloc (Nat.le_refl _) _)
theorem Rb.lt {B : Nat} {w : World} {v : Value} {L : List Int} (h : Rb B w v L) : ∀ g, v.ownBlock = some g → B ≤ g ∧ g < w.heap.size := fun g hg => h.1.lt g hg
def crcF (f : Nat → Int) : Nat → Int
  | 0 => 0
  | k + 1 => (crcF f k * 31 + f k) % 65521
theorem crcF_range (f : Nat → Int) (k : Nat) : 0 ≤ crcF f k ∧ crcF f k < 65521 := by
  cases k with
  | zero => exact ⟨by show (0 : Int) ≤ 0; omega, by show (0 : Int) < 65521; omega⟩
  | succ k => unfold crcF; omega
end Go.Proofs.YtcgapochcahknaaDoor
