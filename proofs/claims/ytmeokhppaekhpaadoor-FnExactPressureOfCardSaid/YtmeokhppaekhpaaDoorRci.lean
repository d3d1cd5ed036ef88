/- The program's nexts and reached: where an instruction leads, and what is reached. -/
import Derived.Test.YtmeokhppaekhpaaDoorQue
import Derived.Test.YtmeokhppaekhpaaDoorRcm
import Derived.Test.YtmeokhppaekhpaaDoorRop
namespace Go.Proofs.YtmeokhppaekhpaaDoor
open Go.ChangeShapes Go.WideShapes Go.ChangeAt Go.RowKit
set_option linter.unusedVariables false
theorem RS.same {O A B C : Nat → Int} {n : Nat} {S : Nat → Bool} {L M : List Int} (h : RS O A B C n S L) (hm : ∀ t, t ∈ L ↔ t ∈ M) : RS O A B C n S M :=
  ⟨h.sound, fun t ht => h.todo t ((hm t).2 ht), fun k hk hs t ht htn => (h.closed k hk hs t ht htn).imp id fun q => (hm t).1 q, h.start.imp id fun q => (hm 0).1 q⟩
theorem rs_skip_head {O A B C : Nat → Int} {n : Nat} {S : Nat → Bool} {L : List Int} {t : Int} (h : RS O A B C n S (t :: L)) (ht : S t.toNat = true) (hn : 0 < n) : RS O A B C n S L :=
  rs_skip (h.same (fun u => by simp only [List.mem_cons, List.mem_append, List.not_mem_nil, or_false]; exact or_comm)) (Or.inr ht) hn
theorem rs_take_head {O A B C : Nat → Int} {n : Nat} {S : Nat → Bool} {L : List Int} {k : Nat} (h : RS O A B C n S ((k : Int) :: L)) (hk : k < n) (hb : ∀ t, t ∈ sucL (O k) (A k) (B k) (C k) k → 0 ≤ t) : RS O A B C n (putB S k) (L ++ sucL (O k) (A k) (B k) (C k) k) :=
  rs_take (h.same (fun u => by simp only [List.mem_cons, List.mem_append, List.not_mem_nil, or_false]; exact or_comm)) hk hb
/-- What leads on leads into the code. -/
def Sucs (O A B C : Nat → Int) (n : Nat) : Prop := ∀ k, k < n → ∀ t, t ∈ sucL (O k) (A k) (B k) (C k) k → 0 ≤ t ∧ t < n
theorem rchB_off {O A B C : Nat → Int} {n i : Nat} (h : n ≤ i) : rchB O A B C n i = false := by
  unfold rchB
  exact @decide_eq_false _ (Classical.propDecidable _) (fun r => by have := r.lt; omega)
set_option maxRecDepth 100000 in
set_option maxHeartbeats 4000000 in
theorem nexts49 (n a cap k : Nat) (O D A B C X : Nat → Int) (w : World) (R : RowI w a n O D A B C X) (hk : k < n) (n1 : n ≤ 600) : Calls Tryd.prog 40 #[.slice (some ⟨a, 0, none⟩) n cap, .int .i64 (k : Int)] w fun e w' => ∃ v, e = .returned v ∧ IOwn w.heap.size w' v (sucL (O k) (A k) (B k) (C k) k) ∧ Below w.heap.size w w' := by
  have i0 : (0 : Int) ≤ (k : Int) := by omega
  have i1 : (k : Int) < (n : Int) := by omega
  have wk : wrap64 ((k : Int) + 1) = (k : Int) + 1 := by unfold wrap64; omega
  have c0 := R.c0 k hk
  have c1 := R.c1 k hk
  have c2 := R.c2 k hk
  have c3 := R.c3 k hk
  have c4 := R.c4 k hk
  have c5 := R.c5 k hk
  have HK : Hid (((k + 1 : Nat) : Int) = (k : Int) + 1) := by show _ = _; omega
  clear R
  generalize O k = o at c0 ⊢
  generalize D k = dd at c1
  generalize A k = aa at c2 ⊢
  generalize B k = bb at c3 ⊢
  generalize C k = cc at c4 ⊢
  generalize X k = xx at c5
  obtain ⟨L, hL⟩ : ∃ L, sucL o aa bb cc k = L := ⟨_, rfl⟩
  have HL : Hid (sucL o aa bb cc k = L) := hL
  rw [hL]
  clear hL
  by_cases e8 : o = 8
  · subst e8
    obtain rfl : [aa] = L := HL.out
    go_enter Tryd.func40, Tryd.ntmps40
    go_wp2
    go_ret
    exact ⟨_, rfl, Or.inr ⟨_, 1, rfl, by simp, by simp, ints_at _ _ (by simp) [aa]⟩, ((Below.refl _ _).alloc (Nat.le_refl _) _).alloc (by simp) _⟩
  have f8 : (o == 8) = false := by simp; omega
  by_cases e9 : o = 9
  · subst e9
    obtain rfl : [bb, cc, (k : Int) + 1] = L := by rw [← HL.out]; simp [sucL, tgL]
    go_enter Tryd.func40, Tryd.ntmps40
    go_wp2
    go_ret
    exact ⟨_, rfl, Or.inr ⟨_, 3, rfl, by simp, by simp, ints_at _ _ (by simp) [bb, cc, (k : Int) + 1]⟩, ((Below.refl _ _).alloc (Nat.le_refl _) _).alloc (by simp) _⟩
  have f9 : (o == 9) = false := by simp; omega
  by_cases e11 : o = 11
  · subst e11
    obtain rfl : [] = L := by rw [← HL.out]; simp [sucL, tgL]
    go_enter Tryd.func40, Tryd.ntmps40
    go_wp2
    go_ret
    exact ⟨_, rfl, Or.inl ⟨rfl, rfl⟩, (Below.refl _ _).alloc (Nat.le_refl _) _⟩
  have f11 : (o == 11) = false := by simp; omega
  obtain rfl : [(k : Int) + 1] = L := by rw [← HL.out]; simp [sucL, tgL, e8, e9, e11]
  clear e8 e9 e11
  go_enter Tryd.func40, Tryd.ntmps40
  go_wp2
  go_ret
  exact ⟨_, rfl, Or.inr ⟨_, 1, rfl, by simp, by simp, ints_at _ _ (by simp) [(k : Int) + 1]⟩, ((Below.refl _ _).alloc (Nat.le_refl _) _).alloc (by simp) _⟩
end Go.Proofs.YtmeokhppaekhpaaDoor
