/- The program's nexts and reached: where an instruction leads, and what is reached. -/
import Derived.Test.YtcgapochcahknaaDoorQue
import Derived.Test.YtcgapochcahknaaDoorRcm
import Derived.Test.YtcgapochcahknaaDoorRop
namespace Go.Proofs.YtcgapochcahknaaDoor
open Go.ChangeShapes Go.WideShapes Go.ChangeAt Go.RowKit
set_option linter.unusedVariables false
theorem RS.same {O A B C : Nat → Int} {n : Nat} {S : Nat → Bool} {L M : List Int} (h : RS O A B C n S L) (hm : ∀ t, t ∈ L ↔ t ∈ M) : RS O A B C n S M :=
  ⟨h.sound, fun t ht => h.todo t ((hm t).2 ht), fun k hk hs t ht htn => (h.closed k hk hs t ht htn).imp id fun q => (hm t).1 q, h.start.imp id fun q => (hm 0).1 q⟩
theorem rs_skip_head {O A B C : Nat → Int} {n : Nat} {S : Nat → Bool} {L : List Int} {t : Int} (h : RS O A B C n S (t :: L)) (ht : S t.toNat = true) (hn : 0 < n) : RS O A B C n S L :=
  rs_skip (h.same (fun u => by simp only [List.mem_cons, List.mem_append, List.not_mem_nil, or_false]; exact or_comm)) (Or.inr ht) hn
theorem rs_take_head {O A B C : Nat → Int} {n : Nat} {S : Nat → Bool} {L : List Int} {k : Nat} (h : RS O A B C n S ((k : Int) :: L)) (hk : k < n) (hb : ∀ t, t ∈ sucL (O k) (A k) (B k) (C k) k → 0 ≤ t) : RS O A B C n (putB S k) (L ++ sucL (O k) (A k) (B k) (C k) k) :=
  rs_take (h.same (fun u => by simp only [List.mem_cons, List.mem_append, List.not_mem_nil, or_false]; exact or_comm)) hk hb
/-- What leads on leads into the code. -/
def Sucs (O A B C : Nat → Int) (n : Nat) : Prop := ∀ k, k < n → ∀ t, t ∈ sucL (O k) (A k) (B k) (C k) k → 0 ≤ t ∧ t < n
theorem rchB_off {O A B C : Nat → Int} {n i : Nat} (h : n ≤ i) : rchB O A B C n i = false := by
  unfold rchB
  exact @decide_eq_false _ (Classical.propDecidable _) (fun r => by have := r.lt; omega)
end Go.Proofs.YtcgapochcahknaaDoor
