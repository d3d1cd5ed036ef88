/- What DropUnread takes out, again and again: told without a program. -/
import Derived.Test.YtcgapochcahknaaDoorDup
namespace Go.Proofs.YtcgapochcahknaaDoor
open Go.ChangeShapes Go.WideShapes Go.ChangeAt Go.RowKit
set_option linter.unusedVariables false
/-- Code: its fields by number, and how many instructions there are. -/
structure Cd where
  O : Nat → Int
  D : Nat → Int
  A : Nat → Int
  B : Nat → Int
  C : Nat → Int
  X : Nat → Int
  n : Nat
/-- What each of the first k instructions reads. -/
def Cd.rdLs (c : Cd) : Nat → List (List Int)
  | 0 => []
  | k + 1 => c.rdLs k ++ [opsL (c.O k) (c.A k) (c.B k) (c.C k) (c.X k)]
def Cd.rdL (c : Cd) (k : Nat) : List Int := (c.rdLs k).flatten
theorem Cd.rdL_succ (c : Cd) (k : Nat) : c.rdL (k + 1) = c.rdL k ++ opsL (c.O k) (c.A k) (c.B k) (c.C k) (c.X k) := by
  unfold Cd.rdL
  rw [Cd.rdLs, List.flatten_append]
  simp
theorem Cd.rdLs_len (c : Cd) : ∀ k, (c.rdLs k).length = k
  | 0 => rfl
  | k + 1 => by rw [Cd.rdLs, List.length_append, c.rdLs_len k]; rfl
theorem Cd.rdLs_mem (c : Cd) (L : List Int) : ∀ k, L ∈ c.rdLs k → ∃ i, i < k ∧ L = opsL (c.O i) (c.A i) (c.B i) (c.C i) (c.X i)
  | 0, h => by cases h
  | k + 1, h => by
    rw [Cd.rdLs] at h
    rcases List.mem_append.1 h with h | h
    · obtain ⟨i, hi, e⟩ := c.rdLs_mem L k h
      exact ⟨i, by omega, e⟩
    · exact ⟨k, by omega, by simpa using h⟩
/-- Whether an instruction is taken out: what it writes is not read, or it is an idle move. -/
def Cd.un1 (c : Cd) (k : Nat) : Bool := nmd (c.O k) 0 && !memB (c.rdL c.n) (c.D k).toNat
def Cd.un2 (c : Cd) (k : Nat) : Bool := c.O k == 2 && c.D k == c.A k
def Cd.un (c : Cd) (k : Nat) : Bool := c.un1 k || c.un2 k
/-- The code behind one such taking out. -/
def Cd.tk (c : Cd) : Cd := ⟨fun i => c.O (tkP c.O c.un c.n i), fun i => c.D (tkP c.O c.un c.n i), tkA c.O c.A c.un c.n, tkB c.O c.B c.un c.n, tkB c.O c.C c.un c.n, fun i => c.X (tkP c.O c.un c.n i), tkN c.O c.un c.n⟩
/-- .. again and again. -/
def usN : Nat → Cd → Cd
  | 0, c => c
  | f + 1, c => if c.tk.n = c.n then c else usN f c.tk
theorem Cd.tk_le (c : Cd) : c.tk.n ≤ c.n := tkN_le c.O c.un c.n
/-- What good code is, as far as it is wanted here. -/
structure Ok (c : Cd) : Prop where
  n0 : 1 ≤ c.n
  n1 : c.n ≤ 600
  op : ∀ k, k < c.n → 1 ≤ c.O k ∧ c.O k ≤ 13
  call : ∀ k, k < c.n → c.O k = 4 → 1 ≤ ar (calW (c.X k))
  wd : Wds c.X c.n
  d : ∀ k, k < c.n → 0 ≤ c.D k ∧ c.D k < 400
  regs : ∀ k, k < c.n → ∀ y, y ∈ opsL (c.O k) (c.A k) (c.B k) (c.C k) (c.X k) → 0 ≤ y ∧ y < 400
  tgs : Tgs c.O c.A c.B c.C c.n
theorem numT_lt (Z : Nat → Bool) (n : Nat) (t : Int) (h : 0 < cntF Z n) : 0 ≤ numT Z n t ∧ numT Z n t < cntF Z n := by
  unfold numT
  omega
theorem tkN_cnt {O : Nat → Int} {Z : Nat → Bool} {n : Nat} (h : takB O Z n = true) : tkN O Z n = cntF Z n ∧ 0 < cntF Z n := by
  refine ⟨by unfold tkN; rw [h]; rfl, ?_⟩
  unfold takB at h
  simp only [Bool.and_eq_true, decide_eq_true_eq] at h
  exact h.1
theorem opsL_same (o a b c x a' b' c' : Int) (h8 : o ≠ 8 → a' = a) (h9 : o ≠ 9 → b' = b ∧ c' = c) : opsL o a' b' c' x = opsL o a b c x := by
  unfold opsL
  by_cases e8 : o = 8
  · subst e8; simp
  · rw [h8 e8]
    by_cases e9 : o = 9
    · subst e9; simp
    · rw [(h9 e9).1, (h9 e9).2]
theorem Ok.tk {c : Cd} (h : Ok c) : Ok c.tk := by
  have hl : ∀ i, i < c.tk.n → tkP c.O c.un c.n i < c.n := fun i hi => tkP_lt c.O i hi
  refine ⟨tkN_pos c.O _ c.n h.n0, Nat.le_trans c.tk_le h.n1, fun k hk => h.op _ (hl k hk), fun k hk => h.call _ (hl k hk), fun k hk => h.wd _ (hl k hk), fun k hk => h.d _ (hl k hk), fun k hk y hy => ?_, fun k hk => ?_⟩
  · refine h.regs _ (hl k hk) y ?_
    rw [← opsL_same (c.O (tkP c.O c.un c.n k)) (c.A (tkP c.O c.un c.n k)) (c.B (tkP c.O c.un c.n k)) (c.C (tkP c.O c.un c.n k)) (c.X (tkP c.O c.un c.n k)) (tkA c.O c.A c.un c.n k) (tkB c.O c.B c.un c.n k) (tkB c.O c.C c.un c.n k)]
    · exact hy
    · intro e
      unfold tkA tkT
      have : (c.O (tkP c.O c.un c.n k) == 8) = false := by simp [e]
      rw [this, Bool.and_false]; rfl
    · intro e
      have : (c.O (tkP c.O c.un c.n k) == 9) = false := by simp [e]
      unfold tkB tkT
      rw [this, Bool.and_false]
      exact ⟨rfl, rfl⟩
  · have ht := h.tgs _ (hl k hk)
    cases htk : takB c.O c.un c.n
    · have e1 : c.tk.n = c.n := by show tkN _ _ _ = _; unfold tkN; rw [htk]; rfl
      have e2 : tkP c.O c.un c.n k = k := by unfold tkP; rw [htk]; rfl
      rw [e2] at ht
      have f : ∀ b t, tkT c.O c.un c.n b t = t := fun b t => by unfold tkT; rw [htk]; rfl
      refine ⟨fun e => ?_, fun e => ?_⟩
      · have e : c.O (tkP c.O c.un c.n k) = 8 := e
        show 0 ≤ tkT c.O c.un c.n (c.O (tkP c.O c.un c.n k) == 8) (c.A (tkP c.O c.un c.n k)) ∧ tkT c.O c.un c.n (c.O (tkP c.O c.un c.n k) == 8) (c.A (tkP c.O c.un c.n k)) < (c.tk.n : Int)
        rw [f, e1, e2]
        rw [e2] at e
        exact ht.1 e
      · have e : c.O (tkP c.O c.un c.n k) = 9 := e
        show (0 ≤ tkT c.O c.un c.n (c.O (tkP c.O c.un c.n k) == 9) (c.B (tkP c.O c.un c.n k)) ∧ tkT c.O c.un c.n (c.O (tkP c.O c.un c.n k) == 9) (c.B (tkP c.O c.un c.n k)) < (c.tk.n : Int)) ∧ 0 ≤ tkT c.O c.un c.n (c.O (tkP c.O c.un c.n k) == 9) (c.C (tkP c.O c.un c.n k)) ∧ tkT c.O c.un c.n (c.O (tkP c.O c.un c.n k) == 9) (c.C (tkP c.O c.un c.n k)) < (c.tk.n : Int)
        rw [f, f, e1, e2]
        rw [e2] at e
        exact ht.2 e
    · obtain ⟨e1, e0⟩ := tkN_cnt htk
      have f : ∀ t, 0 ≤ tkT c.O c.un c.n true t ∧ tkT c.O c.un c.n true t < c.tk.n := fun t => by
        unfold tkT
        rw [htk]
        show 0 ≤ numT _ _ _ ∧ numT _ _ _ < (tkN _ _ _ : Int)
        rw [e1]
        exact numT_lt _ _ _ e0
      refine ⟨fun e => ?_, fun e => ?_⟩
      · have e : c.O (tkP c.O c.un c.n k) = 8 := e
        show 0 ≤ tkA c.O c.A c.un c.n k ∧ tkA c.O c.A c.un c.n k < (c.tk.n : Int)
        unfold tkA
        rw [e]
        exact f _
      · have e : c.O (tkP c.O c.un c.n k) = 9 := e
        show (0 ≤ tkB c.O c.B c.un c.n k ∧ tkB c.O c.B c.un c.n k < (c.tk.n : Int)) ∧ 0 ≤ tkB c.O c.C c.un c.n k ∧ tkB c.O c.C c.un c.n k < (c.tk.n : Int)
        unfold tkB
        rw [e]
        exact ⟨f _, f _⟩
theorem cnt_full {Z : Nat → Bool} : ∀ {m : Nat}, cntF Z m = m → ∀ i, i < m → Z i = false
  | 0, _, i, hi => by omega
  | m + 1, h, i, hi => by
    rw [cntF] at h
    have hm := cntF_le Z m
    cases hz : Z m
    · rw [hz] at h
      have h' : cntF Z m = m := by simpa using h
      by_cases e : i = m
      · subst e; exact hz
      · exact cnt_full h' i (by omega)
    · rw [hz] at h
      simp at h
      omega
theorem cnt_none {Z : Nat → Bool} : ∀ {m : Nat}, (∀ i, i < m → Z i = false) → cntF Z m = m
  | 0, _ => rfl
  | m + 1, h => by rw [cntF, cnt_none (fun i hi => h i (by omega)), h m (by omega)]; rfl
/-- Where nothing is taken out, the row is the code itself. -/
theorem tk_same {w : World} {g : Nat} {O D A B C X : Nat → Int} {Z : Nat → Bool} {n : Nat} (hT : Tgs O A B C n) (h : tkN O Z n = n) (R : RowI w g n (fun i => O (tkP O Z n i)) (fun i => D (tkP O Z n i)) (tkA O A Z n) (tkB O B Z n) (tkB O C Z n) (fun i => X (tkP O Z n i))) : RowI w g n O D A B C X := by
  have key : (∀ i, i < n → tkP O Z n i = i) ∧ ∀ (b : Bool) (t : Int), (b = true → 0 ≤ t ∧ t < n) → tkT O Z n b t = t := by
    cases htk : takB O Z n
    · exact ⟨fun i _ => by unfold tkP; rw [htk]; rfl, fun b t _ => by unfold tkT; rw [htk]; rfl⟩
    · obtain ⟨e1, e0⟩ := tkN_cnt htk
      rw [h] at e1
      have hz := cnt_full e1.symm
      have hc : ∀ m, m ≤ n → cntF Z m = m := fun m hm => cnt_none (fun i hi => hz i (by omega))
      refine ⟨fun i hi => ?_, fun b t hb => ?_⟩
      · have := keepL_at Z i (hz i hi) n hi
        rw [hc i (by omega)] at this
        unfold tkP kpI
        rw [htk, List.getD_eq_getElem?_getD, this]
        rfl
      · unfold tkT
        rw [htk]
        cases b
        · rfl
        · have := hb rfl
          show numT Z n t = t
          unfold numT
          rw [hc n (Nat.le_refl _), hc t.toNat (by omega)]
          omega
  obtain ⟨kP, kT⟩ := key
  refine R.mono (Nat.le_refl _) (fun i hi => by show O i = O _; rw [kP i hi]) (fun i hi => by show D i = D _; rw [kP i hi]) (fun i hi => ?_) (fun i hi => ?_) (fun i hi => ?_) (fun i hi => by show X i = X _; rw [kP i hi])
  · unfold tkA
    rw [kP i hi]
    exact (kT _ _ (fun hb => (hT i hi).1 (by simpa using hb))).symm
  · unfold tkB
    rw [kP i hi]
    exact (kT _ _ (fun hb => ((hT i hi).2 (by simpa using hb)).1)).symm
  · unfold tkB
    rw [kP i hi]
    exact (kT _ _ (fun hb => ((hT i hi).2 (by simpa using hb)).2)).symm
theorem tkN_none {O : Nat → Int} {Z : Nat → Bool} {n : Nat} (h : ∀ i, i < n → Z i = false) : tkN O Z n = n := by
  unfold tkN
  rw [cnt_none h]
  split <;> rfl
theorem usN_end {c : Cd} {f : Nat} (h : c.tk.n = c.n) : usN f c = c := by
  cases f with
  | zero => rfl
  | succ f => rw [usN, if_pos h]
theorem usN_more {c : Cd} {f : Nat} (h : c.tk.n ≠ c.n) (hf : c.n ≤ f) : ∃ g, c.tk.n ≤ g ∧ usN f c = usN g c.tk := by
  have hl := c.tk_le
  cases f with
  | zero => omega
  | succ f => exact ⟨f, by omega, by rw [usN, if_neg h]⟩
theorem usN_le : ∀ f c, (usN f c).n ≤ c.n
  | 0, c => Nat.le_refl _
  | f + 1, c => by
    rw [usN]
    split
    · exact Nat.le_refl _
    · exact Nat.le_trans (usN_le f c.tk) c.tk_le
theorem usN_pos : ∀ f c, Ok c → 1 ≤ (usN f c).n
  | 0, c, h => h.n0
  | f + 1, c, h => by
    rw [usN]
    split
    · exact h.n0
    · exact usN_pos f c.tk h.tk
theorem ok_of {O D A B C X : Nat → Int} {n : Nat} (h : goodC O D A B C X n = true) (hX : Wds X n) : Ok ⟨O, D, A, B, C, X, n⟩ := by
  have hT := tgs_of h
  obtain ⟨h6, h1, hb⟩ := goodC_bds h
  unfold goodC at h
  simp only [Bool.and_eq_true, decide_eq_true_eq] at h
  obtain ⟨_, h3, _⟩ := h
  have key : ∀ k, k < n → okF (O k) (D k) (A k) (B k) (C k) (X k) (n : Int) 5 = true ∧ swOk (O k) (A k) (B k) (C k) (X k) = true := fun k hk => by
    have hg := allB_at _ n k h3 hk
    unfold gdI goodI at hg
    rw [Bool.and_eq_true] at hg
    exact hg
  have op : ∀ k, k < n → 1 ≤ O k ∧ O k ≤ 13 := fun k hk => (hb k hk).1
  have rg : ∀ k, k < n → ∀ f, f < 4 → isN (O k) f = false → 0 ≤ val (D k) (A k) (B k) (C k) (X k) f ∧ val (D k) (A k) (B k) (C k) (X k) f < 400 := fun k hk f hf hN => by
    have := okF_at (key k hk).1 f (by omega)
    unfold inB at this
    simp only [Bool.and_eq_true, decide_eq_true_eq] at this
    refine ⟨this.1, ?_⟩
    have h2 := this.2
    unfold gv at h2
    rw [hN] at h2
    split at h2
    · rw [if_neg (by simp), if_neg (by omega)] at h2
      omega
    · omega
  refine ⟨h1, h6, op, fun k hk e => ?_, hX, fun k hk => rg k hk 0 (by omega) (isN_0 _), fun k hk y hy => ?_, hT⟩
  · have e : O k = 4 := e
    have := (key k hk).2
    unfold swOk at this
    rw [e, if_neg (by decide), if_pos rfl] at this
    unfold callOk at this
    simp only [Bool.and_eq_true, decide_eq_true_eq] at this
    exact this.1.1.1
  · have hy : y ∈ opsL (O k) (A k) (B k) (C k) (X k) := hy
    have hne : O k ≠ 8 ∧ (O k = 9 → y = A k) := by
      unfold opsL at hy
      refine ⟨fun e => ?_, fun e => ?_⟩
      · rw [e] at hy; simp at hy
      · rw [e] at hy; simpa using hy
    have hy3 : y = A k ∨ y = B k ∨ y = C k := by
      unfold opsL at hy
      split at hy
      · left; simpa using hy
      · split at hy
        · simp at hy; omega
        · split at hy
          · have := List.mem_of_mem_take hy
            simpa using this
          · cases hy
    have n1 : isN (O k) 1 = false := by rw [isN_1]; simp [hne.1]
    by_cases e9 : O k = 9
    · rw [hne.2 e9]; exact rg k hk 1 (by omega) n1
    · have n2 : isN (O k) 2 = false := by rw [isN_2]; simp [e9]
      have n3 : isN (O k) 3 = false := by rw [isN_3]; simp [e9]
      rcases hy3 with rfl | rfl | rfl
      · exact rg k hk 1 (by omega) n1
      · exact rg k hk 2 (by omega) n2
      · exact rg k hk 3 (by omega) n3
end Go.Proofs.YtcgapochcahknaaDoor
