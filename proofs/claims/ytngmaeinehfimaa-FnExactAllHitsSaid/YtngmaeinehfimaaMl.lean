/- Rows of blocks as a law's parameter. -/
import Derived.Test.YtngmaeinehfimaaMk
import Derived.Test.YtngmaeinehfimaaMb
namespace Go.Proofs.Ytngmaeinehfimaa
open Go.ChangeShapes Go.WideShapes Go.ChangeAt Go.RowKit
set_option linter.unusedVariables false
theorem viewL {H : Type} {enc : TypeId × Value → H} {P : Program} {W : World} {base : Nat} {t e r : TypeId} {f0 f1 : Field} {v : Value} {d : DataW H} {p : List MemPlace} (ht : P.underlying t = some (.slice e)) (he : P.underlying e = some (.struct #[f0, f1])) (ce : P.cellsOf e = 2)
    (o0 : f0.offset = 0) (o1 : f1.offset = 1) (c0 : P.cellsOf f0.type = 1) (c1 : P.cellsOf f1.type = 1) (u0 : P.underlying f0.type = some (.slice r)) (u1 : P.underlying f1.type = some (.slice r)) (ur : P.underlying r = some (.int .i64)) (cr : P.cellsOf r = 1)
    (hok : Value.okWide P W .any base t v) (h : DataW.Trod enc P W 0 (fun _ => true) true t v d p) :
    ∃ (ad : Option Addr) (c : Nat) (L : List TB), v = .slice ad L.length c ∧ BRow W (.slice ad L.length c) L ∧ L.length ≤ 9223372036854775807 ∧ ∀ i, i < L.length → (tb L i).1.length ≤ 9223372036854775807 ∧ (tb L i).2.length ≤ 9223372036854775807 := by
  obtain ⟨L, U, h1, h2⟩ := viewB ht he ce o0 o1 c0 c1 u0 u1 ur cr hok h
  have U' := U
  obtain ⟨ad, c, rfl, -⟩ := U
  exact ⟨ad, c, L, rfl, U', h1, h2⟩
/-- A list of blocks short enough to be copied. -/
def ShB (L : List TB) : Prop := L.length ≤ 1048576 ∧ ∀ i, i < L.length → (tb L i).1.length ≤ 1048576 ∧ (tb L i).2.length ≤ 1048576
theorem szb_of {L : List TB} {x : Int} (h : SzB L L.length x) (h0 : ¬ x < 0) : ShB L ∧ 0 ≤ x ∧ x ≤ 1048576 := by
  unfold SzB at h
  rcases h with h | ⟨h1, h2, h3, h4⟩
  · exact absurd h h0
  · exact ⟨⟨by omega, h4⟩, h1, h2⟩
end Go.Proofs.Ytngmaeinehfimaa
