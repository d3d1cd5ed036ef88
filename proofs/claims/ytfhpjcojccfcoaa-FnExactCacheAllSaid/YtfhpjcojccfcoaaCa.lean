/- Places read one behind the other; a cache and its count in memory. -/
import Derived.Test.YtfhpjcojccfcoaaCq
import Derived.Test.YtfhpjcojccfcoaaLl
namespace Go.Proofs.Ytfhpjcojccfcoaa
open Go.ChangeShapes Go.WideShapes Go.ChangeAt Go.RowKit
set_option linter.unusedVariables false
/-- A cache behind its first k places, its hits, its misses, and the lines that went. -/
structure Ck where
  s : Cs
  h : Int
  x : Int
  o : List Int
def Ck.step (c : Ck) (m y : Nat) (l p pl : Int) : Ck := ⟨c.s.rd m y l p pl, if c.s.hit m y l p pl = true then c.h + 1 else c.h, if c.s.hit m y l p pl = true then c.x else c.x + 1, if c.s.out m y l p pl = -1 then c.o else c.o ++ [c.s.out m y l p pl]⟩
def ca (m y : Nat) (l p : Int) (s : Cs) (ls : List Int) : Nat → Ck
  | 0 => ⟨s, 0, 0, []⟩
  | k + 1 => (ca m y l p s ls k).step m y l p (ls.getD k 0)
theorem ca_ok (m y : Nat) (l p : Int) (s : Cs) (ls : List Int) (h : s.ok m y) (hm : 0 < m) (hy : 0 < y) (hl : 16 ≤ l) (hp : ∀ i, i < ls.length → 0 ≤ ls.getD i 0 ∧ ls.getD i 0 ≤ 1000000) : ∀ k, k ≤ ls.length → (ca m y l p s ls k).s.ok m y ∧ 0 ≤ (ca m y l p s ls k).h ∧ (ca m y l p s ls k).h ≤ k ∧ 0 ≤ (ca m y l p s ls k).x ∧ (ca m y l p s ls k).x ≤ k ∧ (ca m y l p s ls k).o.length ≤ k
  | 0, _ => ⟨h, Int.le_refl _, Int.le_refl _, Int.le_refl _, Int.le_refl _, Nat.le_refl _⟩
  | k + 1, hk => by
    obtain ⟨h1, h2, h3, h4, h5, h6⟩ := ca_ok m y l p s ls h hm hy hl hp k (by omega)
    have hq := hp k (by omega)
    have e1 : (ca m y l p s ls (k + 1)).h = if (ca m y l p s ls k).s.hit m y l p (ls.getD k 0) = true then (ca m y l p s ls k).h + 1 else (ca m y l p s ls k).h := rfl
    have e2 : (ca m y l p s ls (k + 1)).x = if (ca m y l p s ls k).s.hit m y l p (ls.getD k 0) = true then (ca m y l p s ls k).x else (ca m y l p s ls k).x + 1 := rfl
    have e3 : (ca m y l p s ls (k + 1)).o = if (ca m y l p s ls k).s.out m y l p (ls.getD k 0) = -1 then (ca m y l p s ls k).o else (ca m y l p s ls k).o ++ [(ca m y l p s ls k).s.out m y l p (ls.getD k 0)] := rfl
    refine ⟨Cs.rd_ok h1 hm hy hl hq.1 hq.2, ?_, ?_, ?_, ?_, ?_⟩
    · rw [e1]; split <;> omega
    · rw [e1]; split <;> omega
    · rw [e2]; split <;> omega
    · rw [e2]; split <;> omega
    · rw [e3]
      split
      · omega
      · rw [List.length_append]; show _ + 1 ≤ _; omega
/-- What goes is a line, or none. -/
theorem Cs.out_is {s : Cs} {m y : Nat} {l p pl : Int} (h : s.ok m y) (hm : 0 < m) (hy : 0 < y) (hl : 16 ≤ l) (a0 : 0 ≤ pl) (a1 : pl ≤ 1000000) : s.out m y l p pl = -1 ∨ 0 ≤ s.out m y l p pl ∧ s.out m y l p pl ≤ 1000000 := by
  obtain ⟨n0, n1, hs, hsI⟩ := place_set (m := m) (line := l) (p := pl) (by omega) (by omega) a0 a1
  have hset := h.1 _ hs
  show (step1 y p s.coin (s.L (pl / l % (m : Int)).toNat) (pl / l)).2.2.2 = -1 ∨ 0 ≤ (step1 y p s.coin (s.L (pl / l % (m : Int)).toNat) (pl / l)).2.2.2 ∧ (step1 y p s.coin (s.L (pl / l % (m : Int)).toNat) (pl / l)).2.2.2 ≤ 1000000
  rw [step1_G]
  unfold stepG
  split
  · exact Or.inl rfl
  · split
    · right
      rename_i hlen
      show 0 ≤ (s.L (pl / l % (m : Int)).toNat).getD _ 0 ∧ (s.L (pl / l % (m : Int)).toNat).getD _ 0 ≤ 1000000
      by_cases hg : goP y p s.coin < (s.L (pl / l % (m : Int)).toNat).length
      · rw [List.getD_eq_getElem?_getD, List.getElem?_eq_getElem hg]
        have := hset.2.1 _ (List.getElem_mem hg)
        exact ⟨this.1, this.2.1⟩
      · rw [List.getD_eq_getElem?_getD, List.getElem?_eq_none (by omega)]
        exact ⟨Int.le_refl _, by decide⟩
    · exact Or.inl rfl
/-- A cache and a count of hits and misses, each in blocks of its own. -/
structure Lw (B lb gm m hb : Nat) (w : World) (U : Nat → Value) (u : Value) (L : Nat → List Int) (M : List Int) (a b : Int) : Prop where
  K : Kx B w lb gm m U L
  C : C3 w hb (.int .i64 a) (.int .i64 b) u
  R : Ri B w u M
  oU : ∀ x, x < m → (U x).ownBlock ≠ some hb
  ou : ∀ q, u.ownBlock = some q → q ≠ lb ∧ q ≠ gm ∧ q ≠ hb ∧ ∀ x, x < m → (U x).ownBlock ≠ some q
  lh : lb ≠ hb
  gh : gm ≠ hb
  bh : B ≤ hb
theorem Lw.mid {B lb gm m hb : Nat} {w w8 : World} {U U' : Nat → Value} {u : Value} {L L' : Nat → List Int} {M : List Int} {a b : Int} (h : Lw B lb gm m hb w U u L M a b) (K8 : Kx B w8 lb gm m U' L') (F : Fr lb gm m U U' w w8) : Lw B lb gm m hb w8 U' u L' M a b := by
  have hs := F.size
  have hh := h.C.hi
  refine ⟨K8, h.C.block (F.block hb hh h.lh.symm h.gh.symm h.oU) hs, h.R.blk (fun q hq => ?_) hs, fun x hx e => ?_, fun q hq => ⟨(h.ou q hq).1, (h.ou q hq).2.1, (h.ou q hq).2.2.1, fun x hx e => ?_⟩, h.lh, h.gh, h.bh⟩
  · have o := h.ou q hq
    exact F.block q (h.R.lt q hq).2 o.1 o.2.1 o.2.2.2
  · rcases F.own x hx hb e with e | e
    · exact h.oU x hx e
    · omega
  · rcases F.own x hx q e with e | e
    · exact (h.ou q hq).2.2.2 x hx e
    · have := (h.R.lt q hq).2; omega
theorem Lw.fin {B lb gm m hb : Nat} {w w' : World} {U : Nat → Value} {u u' : Value} {L : Nat → List Int} {M M' : List Int} {a b a' b' : Int} (h : Lw B lb gm m hb w U u L M a b) (c : Ct hb u u' w w') (C9 : C3 w' hb (.int .i64 a') (.int .i64 b') u') (R9 : Ri B w' u' M') (hne : u'.ownBlock ≠ some hb) : Lw B lb gm m hb w' U u' L M' a' b' ∧ w'.heap[lb]? = w.heap[lb]? ∧ Below B w w' := by
  have nl : some lb ≠ u.ownBlock := fun e => (h.ou lb e.symm).1 rfl
  have ng : some gm ≠ u.ownBlock := fun e => (h.ou gm e.symm).2.1 rfl
  refine ⟨⟨h.K.ct c h.lh h.gh nl ng (fun x hx q hq => ⟨fun e => h.oU x hx (by rw [hq, e]), fun e => (h.ou q e.symm).2.2.2 x hx hq⟩), C9, R9, h.oU, fun q hq => ?_, h.lh, h.gh, h.bh⟩, c.block lb h.K.hh h.lh nl, ⟨c.os, c.tape, c.output, c.size, fun k hk => c.block k ?_ ?_ ?_⟩⟩
  · rcases c.own q hq with e | e
    · exact h.ou q e
    · refine ⟨by have := h.K.hh; omega, by have := h.K.hg; omega, fun e2 => hne (by rw [hq, e2]), fun x hx e2 => by have := (h.K.lt x hx q e2).2; omega⟩
  · have := h.bh; have := h.C.hi; omega
  · have := h.bh; omega
  · exact fun e => by have := (h.R.lt k e.symm).1; omega
end Go.Proofs.Ytfhpjcojccfcoaa
