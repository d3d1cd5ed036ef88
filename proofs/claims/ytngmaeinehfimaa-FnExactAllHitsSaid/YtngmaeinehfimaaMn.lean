/- What stays of rows of hits and of a ray. -/
import Derived.Test.YtngmaeinehfimaaMm
namespace Go.Proofs.Ytngmaeinehfimaa
open Go.ChangeShapes Go.WideShapes Go.ChangeAt Go.RowKit
set_option linter.unusedVariables false
theorem BkR.btw {lo hi lo' hi' : Nat} {w w' : World} {a : Value} {L H : List Int} (h : BkR lo hi w a L H) (k : Btw lo' hi' w w') (hh : hi' ≤ lo) : BkR lo hi w' a L H := by
  obtain ⟨g, m, e, o1, o2, h1, h2, h3⟩ := h
  exact ⟨g, m, e, o1.btw k (Or.inr (by omega)), o2.btw k (Or.inr (by omega)), h1, h2, h3⟩
theorem HV.btw {lo hi B : Nat} {w w' : World} {r : Value} {M : List TupH} (h : HV B w r M) (k : Btw lo hi w w') (hv : ∀ g, r.ownBlock = some g → g < lo ∨ hi ≤ g) : HV B w' r M := ⟨h.1.btw k hv, fun g hg => ⟨(h.2 g hg).1, Nat.lt_of_lt_of_le (h.2 g hg).2 k.size⟩⟩
theorem Btw.below' {lo hi : Nat} {w a b : World} (k : Btw lo hi a b) (h : Below w.heap.size w a) (hlo : w.heap.size < lo) : Below w.heap.size a b := ⟨k.os, k.tape, k.output, k.size, fun i hi => k.block i (Nat.lt_of_lt_of_le hi h.size) (Or.inl (by omega))⟩
theorem HV.low {B C : Nat} {w : World} {r : Value} {M : List TupH} (h : HV B w r M) (k : C ≤ B) : HV C w r M := ⟨h.1, fun g hg => ⟨Nat.le_trans k (h.2 g hg).1, (h.2 g hg).2⟩⟩
theorem C2.grown {w w' : World} {b : Nat} {v0 v1 : Value} {row : Option Nat} (h : C2 w b v0 v1) (k : w.grownBy w' row) (hne : some b ≠ row) : C2 w' b v0 v1 := h.block (k.block b h.hi hne) k.size
theorem toRb (u v : Value) (L H : List Int) (w : World) (U : ARow w u L) (V : ARow w v H) (hl : L.length ≤ 1048576) (hh : H.length ≤ 1048576) : Calls Try.prog 18 #[.agg #[u, v]] w fun r w' => ∃ a, r = .returned a ∧ BkR w.heap.size w'.heap.size w' a L H ∧ Below w.heap.size w w' := (toRk u v L H w U V hl hh).mono fun e w' ⟨g, h, h1, h2, h3, h4, h5, h6⟩ => ⟨_, h1, ⟨g, h, rfl, h4, h5, h2, h3, h5.hi⟩, h6⟩
end Go.Proofs.Ytngmaeinehfimaa
