/- An argument that is a slice of fields, as the walks take it: no Go text is spoken of here. -/
import Derived.Test.YteakeaclpcgopaaFlds
import Derived.Deep.Slices
import Derived.Carry
namespace Go.Proofs.Yteakeaclpcgopaa
open Go.ChangeShapes Go.WideShapes Go.ChangeAt Go.RowKit
set_option linter.unusedVariables false
section
variable {H : Type} {enc : TypeId × Value → H} {P : Program} {W : World} {base : Nat}
theorem view_nodes {t e : TypeId} {f0 f1 f2 : Field} {v : Value} {d : DataW H} {p : List MemPlace} (ht : P.underlying t = some (.slice e)) (he : P.underlying e = some (.struct #[f0, f1, f2])) (ce : P.cellsOf e = 3)
    (o0 : f0.offset = 0) (o1 : f1.offset = 1) (o2 : f2.offset = 2) (c0 : P.cellsOf f0.type = 1) (c1 : P.cellsOf f1.type = 1) (c2 : P.cellsOf f2.type = 1) (u0 : P.underlying f0.type = some .string) (u1 : P.underlying f1.type = some .string) (u2 : P.underlying f2.type = some (.int .i64))
    (hok : Value.okWide P W .any base t v) (h : DataW.Trod enc P W 0 (fun _ => true) true t v d p) (hlt : ∀ x ∈ p, x.block < W.heap.size) :
    ∃ (a : Option Addr) (len cap : Nat) (K T : Nat → ByteArray) (J : Nat → Int), v = .slice a len cap ∧ len ≤ 9223372036854775807 ∧ Arg3 W a len K T J ∧ (∀ i, (K i).size ≤ 9223372036854775807) ∧ (∀ i, (T i).size ≤ 9223372036854775807) ∧ ∀ i, (Lit.int .i64 (J i)).wf = true := by
  obtain ⟨a0, len, cap, rfl⟩ := okWide_slice ht hok
  obtain ⟨fuel, hf⟩ := h
  rcases Go.Deep.open_slice ht hf with ⟨hcs, hx⟩ | ⟨a, len', cap', m, n, D, Pl, hcs, _, hl, hm, hmm, hx, hel⟩
  · simp [Value.cells] at hcs
    obtain ⟨rfl, rfl, rfl⟩ := hcs
    exact ⟨_, 0, 0, fun _ => ⟨#[]⟩, fun _ => ⟨#[]⟩, fun _ => 0, rfl, by omega, Or.inl rfl, fun _ => Nat.zero_le _, fun _ => Nat.zero_le _, fun _ => rfl⟩
  · simp [Value.cells] at hcs
    obtain ⟨rfl, rfl, rfl⟩ := hcs
    simp only [Prod.mk.injEq] at hx
    obtain ⟨rfl, rfl⟩ := hx
    simp only [if_true] at hmm
    have each : ∀ i, i < len → ∃ q : ByteArray × ByteArray × Int, W.cell? (a.add (i * 3)) = some (.string q.1) ∧ W.cell? (a.add (i * 3 + 1)) = some (.string q.2.1) ∧ W.cell? (a.add (i * 3 + 2)) = some (.int .i64 q.2.2) ∧ q.1.size ≤ maxLen ∧ q.2.1.size ≤ maxLen ∧ (Lit.int .i64 q.2.2).wf = true := by
      intro i hi
      obtain ⟨cs', h1, h2⟩ := hel i (by omega)
      rw [ce] at h1
      obtain ⟨_, hlen, hcell⟩ := World.cells?_some h1
      obtain ⟨xs, k, hk, hxy, _, hxl, hf⟩ := DataW.trod_struct he h2
      match xs, hxl, cs', hlen with
      | [y0, y1, y2], _, [v0, v1, v2], _ =>
        have g0 := hf 0 f0 rfl
        have g1 := hf 1 f1 rfl
        have g2 := hf 2 f2 rfl
        simp [o0, o1, o2, c0, c1, c2] at g0 g1 g2
        have e0 := hcell 0 (by omega)
        have e1 := hcell 1 (by omega)
        have e2 := hcell 2 (by omega)
        rw [Go.Deep.add_add] at e0 e1 e2
        obtain ⟨n0, hv0, _, hw0⟩ := DataW.trod_string u0 g0
        obtain ⟨s1, hv1, _, hs1⟩ := DataW.trod_string u1 g1
        obtain ⟨n2, hv2, _, hw2⟩ := DataW.trod_int u2 g2
        simp only [List.cons.injEq, and_true] at hv0 hv1 hv2
        subst hv0 hv1 hv2
        exact ⟨(n0, s1, n2), by simpa using e0, by simpa using e1, by simpa using e2, hw0, hs1, hw2⟩
    by_cases hl0 : len = 0
    · exact ⟨_, len, cap, fun _ => ⟨#[]⟩, fun _ => ⟨#[]⟩, fun _ => 0, rfl, by unfold maxLen at hm; omega, Or.inl hl0, fun _ => Nat.zero_le _, fun _ => Nat.zero_le _, fun _ => rfl⟩
    · obtain ⟨q, hq⟩ := Go.Deep.choose_lt each
      obtain ⟨b, off, spot⟩ := a
      have hspot : spot = none := by simpa [Addr.add] using World.cell?_spot (hq 0 (by omega)).1
      subst hspot
      have hbW : b < W.heap.size := hlt (.cell b off) (List.mem_append.2 (Or.inl (MemPlace.mem_row.2 ⟨0, by rw [ce]; omega, by simp⟩)))
      refine ⟨_, len, cap, fun i => if i < len then (q i).1 else ⟨#[]⟩, fun i => if i < len then (q i).2.1 else ⟨#[]⟩, fun i => if i < len then (q i).2.2 else 0, rfl, by unfold maxLen at hm; omega, Or.inr ⟨b, off, rfl, hbW, fun j hj => ?_⟩, fun i => ?_, fun i => ?_, fun i => ?_⟩
      · obtain ⟨h0, h1, h2, _⟩ := hq j hj
        rw [add_plain] at h0 h1 h2
        simp only [if_pos hj]
        exact ⟨h0, h1, h2⟩
      · by_cases hj : i < len
        · have := (hq i hj).2.2.2.1; unfold maxLen at this; simp only [if_pos hj]; omega
        · simp only [if_neg hj]; first | rfl | decide
      · by_cases hj : i < len
        · simp only [if_pos hj]; exact (hq i hj).2.2.2.2.1
        · simp only [if_neg hj]; first | rfl | decide
      · by_cases hj : i < len
        · simp only [if_pos hj]; exact (hq i hj).2.2.2.2.2
        · simp only [if_neg hj]; first | rfl | decide
end
end Go.Proofs.Yteakeaclpcgopaa
