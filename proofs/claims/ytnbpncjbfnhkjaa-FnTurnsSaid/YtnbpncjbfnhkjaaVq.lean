/- A list with its turns, once more: it stays, and has no fault but that something is not fresh. -/
import Derived.Test.YtnbpncjbfnhkjaaVp
namespace Go.Proofs.Ytnbpncjbfnhkjaa
open Go.ChangeShapes Go.WideShapes Go.ChangeAt Go.RowKit
set_option linter.unusedVariables false
theorem stS_congr {K T O K' T' O' : Nat → Int} : ∀ i, (∀ j, j < i → K j = K' j ∧ T j = T' j ∧ O j = O' j) → stS K T O i = stS K' T' O' i
  | 0, _ => rfl
  | i + 1, h => by
    obtain ⟨a, b, c⟩ := h i (by omega)
    rw [stS, stS, stS_congr i (fun j hj => h j (by omega)), a, b, c]
theorem stU_congr {K T F K' T' F' : Nat → Int} : ∀ i, (∀ j, j < i → K j = K' j ∧ T j = T' j ∧ F j = F' j) → stU K T F i = stU K' T' F' i
  | 0, _ => rfl
  | i + 1, h => by
    obtain ⟨a, b, c⟩ := h i (by omega)
    rw [stU, stU, stU_congr i (fun j hj => h j (by omega)), a, b, c]
theorem ltS_congr {K T K' T' : Nat → Int} : ∀ i, (∀ j, j < i → K j = K' j ∧ T j = T' j) → ltS K T i = ltS K' T' i
  | 0, _ => rfl
  | i + 1, h => by
    obtain ⟨a, b⟩ := h i (by omega)
    rw [ltS, ltS, ltS_congr i (fun j hj => h j (by omega)), a, b]
theorem ltL_congr {K T F O M K' T' F' O' M' : Nat → Int} : ∀ i, (∀ j, j < i → K j = K' j ∧ T j = T' j ∧ F j = F' j ∧ O j = O' j ∧ M j = M' j) → ltL K T F O M i = ltL K' T' F' O' M' i
  | 0, _ => rfl
  | i + 1, h => by
    obtain ⟨a, b, c, d, e⟩ := h i (by omega)
    rw [ltL, ltL, ltL_congr i (fun j hj => h j (by omega)), ltS_congr i (fun j hj => ⟨(h j (by omega)).1, (h j (by omega)).2.1⟩), a, b, c, d, e]
theorem agB_congr {K T F O M K' T' F' O' M' : Nat → Int} : ∀ i, (∀ j, j < i → K j = K' j ∧ T j = T' j ∧ F j = F' j ∧ O j = O' j ∧ M j = M' j) → agB K T F O M i = agB K' T' F' O' M' i
  | 0, _ => rfl
  | i + 1, h => by
    obtain ⟨a, b, c, d, e⟩ := h i (by omega)
    rw [agB, agB, agB_congr i (fun j hj => h j (by omega)), a, b, c, d, e]
theorem at_snoc (X : List TupC) (c : TupC) : (∀ j, j < X.length → atC0 (X ++ [c]) j = atC0 X j ∧ atC1 (X ++ [c]) j = atC1 X j ∧ atC2 (X ++ [c]) j = atC2 X j ∧ atC3 (X ++ [c]) j = atC3 X j ∧ atC4 (X ++ [c]) j = atC4 X j) ∧ (atC0 (X ++ [c]) X.length = c.1 ∧ atC1 (X ++ [c]) X.length = c.2.1 ∧ atC2 (X ++ [c]) X.length = c.2.2.1 ∧ atC3 (X ++ [c]) X.length = c.2.2.2.1 ∧ atC4 (X ++ [c]) X.length = c.2.2.2.2) := by
  constructor
  · intro j hj
    have e : (X ++ [c]).getD j (0, 0, 0, 0, 0) = X.getD j (0, 0, 0, 0, 0) := by simp [List.getD, List.getElem?_append_left hj]
    unfold atC0 atC1 atC2 atC3 atC4
    rw [e]
    exact ⟨rfl, rfl, rfl, rfl, rfl⟩
  · have e : (X ++ [c]).getD X.length (0, 0, 0, 0, 0) = c := by simp [List.getD]
    unfold atC0 atC1 atC2 atC3 atC4
    rw [e]
    exact ⟨rfl, rfl, rfl, rfl, rfl⟩
/-- States, what is written, the list with turns, its states, whether all are good: of a list. -/
def SX (X : List TupC) : Nat → Int := stS (atC0 X) (atC1 X) (atC3 X) X.length
def UX (X : List TupC) : Nat → Bool := stU (atC0 X) (atC1 X) (atC2 X) X.length
def LX (X : List TupC) : List TupC := ltL (atC0 X) (atC1 X) (atC2 X) (atC3 X) (atC4 X) X.length
def ZX (X : List TupC) : Nat → Int := ltS (atC0 X) (atC1 X) X.length
def AX (X : List TupC) : Bool := agB (atC0 X) (atC1 X) (atC2 X) (atC3 X) (atC4 X) X.length
def FX (X : List TupC) : Prop := ∀ i, i < X.length → flI (atC0 X) (atC1 X) (atC2 X) (atC3 X) (atC4 X) i = 0 ∨ flI (atC0 X) (atC1 X) (atC2 X) (atC3 X) (atC4 X) i = 4
theorem SX_snoc (X : List TupC) (k t f o m : Int) : SX (X ++ [(k, t, f, o, m)]) = doS k o t.toNat (SX X) := by
  obtain ⟨h, a, b, c, d, e⟩ := at_snoc X (k, t, f, o, m)
  unfold SX
  rw [List.length_append, List.length_singleton, stS, a, b, d, stS_congr X.length (fun j hj => ⟨(h j hj).1, (h j hj).2.1, (h j hj).2.2.2.1⟩)]
theorem UX_snoc (X : List TupC) (k t f o m : Int) : UX (X ++ [(k, t, f, o, m)]) = doW k f t.toNat (UX X) := by
  obtain ⟨h, a, b, c, d, e⟩ := at_snoc X (k, t, f, o, m)
  unfold UX
  rw [List.length_append, List.length_singleton, stU, a, b, c, stU_congr X.length (fun j hj => ⟨(h j hj).1, (h j hj).2.1, (h j hj).2.2.1⟩)]
theorem ZX_snoc (X : List TupC) (k t f o m : Int) : ZX (X ++ [(k, t, f, o, m)]) = if tfB k (ZX X t.toNat) = true then upd (ZX X) t.toNat k else ZX X := by
  obtain ⟨h, a, b, c, d, e⟩ := at_snoc X (k, t, f, o, m)
  unfold ZX
  rw [List.length_append, List.length_singleton, ltS, a, b, ltS_congr X.length (fun j hj => ⟨(h j hj).1, (h j hj).2.1⟩)]
theorem LX_snoc (X : List TupC) (k t f o m : Int) : LX (X ++ [(k, t, f, o, m)]) = LX X ++ (if k = 4 then [] else (if tfB k (ZX X t.toNat) = true then [(4, t, ZX X t.toNat, k, 0)] else []) ++ [(k, t, f, o, m)]) := by
  obtain ⟨h, a, b, c, d, e⟩ := at_snoc X (k, t, f, o, m)
  unfold LX ZX
  rw [List.length_append, List.length_singleton, ltL, a, b, c, d, e, ltL_congr X.length h, ltS_congr X.length (fun j hj => ⟨(h j hj).1, (h j hj).2.1⟩)]
theorem AX_snoc (X : List TupC) (k t f o m : Int) : AX (X ++ [(k, t, f, o, m)]) = (AX X && gcB k t f o m) := by
  obtain ⟨h, a, b, c, d, e⟩ := at_snoc X (k, t, f, o, m)
  unfold AX
  rw [List.length_append, List.length_singleton, agB, a, b, c, d, e, agB_congr X.length h]
theorem FX_snoc (X : List TupC) (k t f o m : Int) (h1 : FX X) (h2 : fltV (SX X) (UX X) k t f o m = 0 ∨ fltV (SX X) (UX X) k t f o m = 4) : FX (X ++ [(k, t, f, o, m)]) := by
  obtain ⟨h, a, b, c, d, e⟩ := at_snoc X (k, t, f, o, m)
  intro i hi
  rw [List.length_append, List.length_singleton] at hi
  by_cases he : i = X.length
  · subst he
    unfold flI
    rw [a, b, c, d, e, stS_congr X.length (fun j hj => ⟨(h j hj).1, (h j hj).2.1, (h j hj).2.2.2.1⟩), stU_congr X.length (fun j hj => ⟨(h j hj).1, (h j hj).2.1, (h j hj).2.2.1⟩)]
    exact h2
  · have hl : i < X.length := by omega
    have q := h1 i hl
    obtain ⟨a', b', c', d', e'⟩ := h i hl
    unfold flI at q ⊢
    rw [a', b', c', d', e', stS_congr i (fun j hj => ⟨(h j (by omega)).1, (h j (by omega)).2.1, (h j (by omega)).2.2.2.1⟩), stU_congr i (fun j hj => ⟨(h j (by omega)).1, (h j (by omega)).2.1, (h j (by omega)).2.2.1⟩)]
    exact q
theorem flt_is {S : Nat → Int} {U : Nat → Bool} {k f o m : Int} {q : Nat} (hg : gcB k (q : Int) f o m = true) (h1 : tfB k (S q) = false) (h2 : k = 4 → f = S q) : fltV S U k (q : Int) f o m = 0 ∨ fltV S U k (q : Int) f o m = 4 := by
  unfold fltV
  rw [hg, if_neg (by decide), Int.toNat_natCast, h1, if_neg (by decide), if_neg (fun h => h.2 (h2 h.1))]
  split
  · exact Or.inr rfl
  · exact Or.inl rfl
structure Tn (K T F O M : Nat → Int) (i : Nat) : Prop where
  s : SX (ltL K T F O M i) = ltS K T i
  z : ZX (ltL K T F O M i) = ltS K T i
  l : LX (ltL K T F O M i) = ltL K T F O M i
  a : AX (ltL K T F O M i) = true
  f : FX (ltL K T F O M i)
  b : ∀ q, 0 ≤ ltS K T i q ∧ ltS K T i q ≤ 3
theorem Tn.all {K T F O M : Nat → Int} : ∀ i, (∀ j, j < i → gcB (K j) (T j) (F j) (O j) (M j) = true) → Tn K T F O M i
  | 0, _ => ⟨rfl, rfl, rfl, rfl, fun i hi => absurd hi (Nat.not_lt_zero _), fun q => by unfold ltS; omega⟩
  | i + 1, h => by
    have P := Tn.all i (fun j hj => h j (by omega))
    have hg := h i (by omega)
    obtain ⟨q, hq, hq8⟩ := gc_thing hg
    by_cases k4 : K i = 4
    · obtain ⟨e1, e2⟩ := lt_four (K := K) (T := T) (F := F) (O := O) (M := M) k4
      exact ⟨by rw [e1, e2]; exact P.s, by rw [e1, e2]; exact P.z, by rw [e1]; exact P.l, by rw [e1]; exact P.a, by rw [e1]; exact P.f, by rw [e2]; exact P.b⟩
    rw [hq] at hg
    cases ht : tfB (K i) (ltS K T i q)
    · obtain ⟨e1, e2⟩ := lt_none (F := F) (O := O) (M := M) hq k4 ht
      refine ⟨?_, ?_, ?_, ?_, ?_, by rw [e2]; exact P.b⟩
      · rw [e1, e2, SX_snoc, P.s]; unfold doS; rw [if_neg k4]
      · rw [e1, e2, ZX_snoc, P.z, Int.toNat_natCast, ht]; rfl
      · rw [e1, LX_snoc, P.z, P.l, if_neg k4, Int.toNat_natCast, ht]; rfl
      · rw [e1, AX_snoc, P.a, hg]; rfl
      · rw [e1]; exact FX_snoc _ _ _ _ _ _ P.f (flt_is hg (by rw [P.s]; exact ht) (fun e => absurd e k4))
    · obtain ⟨e1, e2⟩ := lt_turn (F := F) (O := O) (M := M) hq ht
      have hk := of_decide_eq_true ht
      have hb := P.b q
      have hgt : gcB 4 (q : Int) (ltS K T i q) (K i) 0 = true := gc_yes (by unfold gcP; omega)
      have s1 : SX (ltL K T F O M i ++ [(4, (q : Int), ltS K T i q, K i, 0)]) = upd (ltS K T i) q (K i) := by rw [SX_snoc, P.s, Int.toNat_natCast]; rfl
      have z1 : ZX (ltL K T F O M i ++ [(4, (q : Int), ltS K T i q, K i, 0)]) = ltS K T i := by
        have e : tfB 4 (ltS K T i q) = false := decide_eq_false (by omega)
        rw [ZX_snoc, P.z, Int.toNat_natCast, e]; rfl
      refine ⟨?_, ?_, ?_, ?_, ?_, ?_⟩
      · rw [e1, e2, SX_snoc, s1]; unfold doS; rw [if_neg k4]
      · rw [e1, e2, ZX_snoc, z1, Int.toNat_natCast, if_pos ht]
      · rw [e1, LX_snoc, z1, LX_snoc, P.l, if_pos rfl, List.append_nil, if_neg k4, Int.toNat_natCast, if_pos ht, List.append_assoc]
      · rw [e1, AX_snoc, AX_snoc, P.a, hgt, hg]; rfl
      · rw [e1]
        refine FX_snoc _ _ _ _ _ _ (FX_snoc _ _ _ _ _ _ P.f (flt_is hgt (decide_eq_false (by omega)) (fun _ => by rw [P.s]))) (flt_is hg ?_ (fun e => absurd e k4))
        rw [s1]
        unfold upd
        rw [if_pos rfl]
        exact decide_eq_false (fun h => h.2 rfl)
      · intro x
        rw [e2]
        unfold upd
        by_cases e : x = q
        · rw [if_pos e]; omega
        · rw [if_neg e]; exact P.b x
/-- What is told of a list with its turns. -/
theorem turns_again {K T F O M : Nat → Int} {n : Nat} {X : List TupC} (hb : ltB K T F O M n = true) (hX : ltR K T F O M n = X) : ltB (atC0 X) (atC1 X) (atC2 X) (atC3 X) (atC4 X) X.length = true ∧ ltR (atC0 X) (atC1 X) (atC2 X) (atC3 X) (atC4 X) X.length = X ∧ (clC (atC0 X) (atC1 X) (atC2 X) (atC3 X) (atC4 X) X.length = 0 ∨ clC (atC0 X) (atC1 X) (atC2 X) (atC3 X) (atC4 X) X.length = 4) ∧ X.length ≤ 60 := by
  have h2 : (n ≤ 60) ∧ agB K T F O M n = true ∧ (ltL K T F O M n).length ≤ 60 := by unfold ltB at hb; simpa using hb
  have e : ltL K T F O M n = X := by rw [← hX]; unfold ltR; rw [if_pos hb]
  have P := Tn.all n (ag_iff.1 h2.2.1)
  have pl := P.l
  have pa := P.a
  have pf := P.f
  rw [e] at pl pa pf
  have hl : X.length ≤ 60 := by rw [← e]; exact h2.2.2
  have b1 : ltB (atC0 X) (atC1 X) (atC2 X) (atC3 X) (atC4 X) X.length = true := by
    unfold ltB
    rw [decide_eq_true hl, show agB (atC0 X) (atC1 X) (atC2 X) (atC3 X) (atC4 X) X.length = true from pa, show ltL (atC0 X) (atC1 X) (atC2 X) (atC3 X) (atC4 X) X.length = X from pl, decide_eq_true hl]
    rfl
  refine ⟨b1, ?_, ?_, hl⟩
  · unfold ltR
    rw [if_pos b1]
    exact pl
  · unfold clC
    rw [if_pos hl]
    rcases ck_cases (flI (atC0 X) (atC1 X) (atC2 X) (atC3 X) (atC4 X)) X.length with ⟨_, e1, _⟩ | ⟨i, hi, _, hne, e1, _⟩
    · exact Or.inl e1
    · rcases pf i hi with h | h
      · exact absurd h hne
      · exact Or.inr (by rw [e1, h])
end Go.Proofs.Ytnbpncjbfnhkjaa
