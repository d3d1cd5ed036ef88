/- Colors that are fetched are good; rows of colors that are appended; the model's sample. -/
import Derived.Test.YthkngcdfnemhaaaAt
import Derived.Maps.AppendAt
import Derived.Lib.AppendZeros
import Derived.Deep.Cut
namespace Go.Proofs.Ythkngcdfnemhaaa
open Go.ChangeShapes Go.WideShapes Go.ChangeAt Go.RowKit
set_option linter.unusedVariables false
theorem step_app {P : Program} {ops : Array Oper} {o : Oper} {a : Act} {w : World} {K : Act → World → Prop} {Q : Exit → Act → World → Prop} {E : Prop} (s x : Operand) (t : TypeId) (vs vx v' : Value) (w' : World) (hgd : o.guard = none) (ho : o.op = .call { callee := .builtin .append, args := #[s, x], argTypes := #[t, t] }) (hs : a.eval s = vs) (hx : a.eval x = vx) (hr : (Builtin.append_ #[t, t] o.type #[vs, vx]).run P w = .ok v' w') (hK : K (a.put o.dst v') w') : if Region.wanted o (yielded ops a.tmps) = true then Oper.wp P o a w K Q else E := by
  have hw : Region.wanted o (yielded ops a.tmps) = true := by simp [Region.wanted, hgd]
  rw [if_pos hw]
  exact Lib.wp_append_run w s x t t ho vs vx hs hx v' w' hr hK
theorem px_ok (l : Int) (L : List Int) (pt : Nat) (hf : l = 1 ∨ l = 2 ∨ l = 3) (hb : ∀ j, j < L.length → 0 ≤ L.getD j 0 ∧ L.getD j 0 ≤ 255) : (pxC l L pt).ok := by
  have hc : ∀ i, 0 ≤ cAt L pt i ∧ cAt L pt i ≤ 255 := fun i => by
    unfold cAt
    by_cases h : pt + i < L.length
    · exact hb _ h
    · rw [List.getD_eq_getElem?_getD, List.getElem?_eq_none (by omega)]; decide
  have h0 := hc 0
  have h1 := hc 1
  have h2 := hc 2
  have h3 := hc 3
  unfold pxC Col.ok
  rcases hf with rfl | rfl | rfl
  · simp only [u0, u1, u2, u3]
    exact ⟨by simpa using h0, by simpa using h0, by simpa using h0, by rw [if_neg (by decide)]; decide⟩
  · simp only [u0, u1, u2, u3]
    exact ⟨by simpa using h0, by simpa using h1, by simpa using h2, by simpa using h3⟩
  · have hu : 0 ≤ un (cAt L pt) ∧ un (cAt L pt) ≤ 65535 := by unfold un; omega
    simp only [u0, u1, u2, u3]
    generalize un (cAt L pt) = U at hu
    refine ⟨?_, ?_, ?_, by rw [if_neg (by decide)]; decide⟩
    · rw [if_neg (by decide), if_neg (by decide)]; omega
    · rw [if_neg (by decide), if_neg (by decide)]; omega
    · rw [if_neg (by decide), if_neg (by decide)]; omega
theorem edI_neg {x n e : Int} (n0 : 1 ≤ n) (he : 1 ≤ e ∧ e ≤ 4) (h : edI x n e < 0) : e = 4 := by
  have h1 := Int.emod_nonneg x (show n ≠ 0 by omega)
  have h2 := Int.emod_nonneg x (show 2 * n ≠ 0 by omega)
  have h3 := Int.emod_lt_of_pos x (show 0 < 2 * n by omega)
  unfold edI at h
  split at h
  · omega
  · split at h
    · split at h <;> omega
    · split at h
      · omega
      · split at h
        · split at h <;> omega
        · omega
theorem ft_ok (l A B : Int) (L : List Int) (x z e : Int) (c : Col) (hf : l = 1 ∨ l = 2 ∨ l = 3) (hb : ∀ j, j < L.length → 0 ≤ L.getD j 0 ∧ L.getD j 0 ≤ 255) (a0 : 1 ≤ A) (b0 : 1 ≤ B) (he : egB e c.r c.g c.b c.a = true) : (ftC l A B L x z e c).ok := by
  unfold egB at he
  rw [Bool.and_eq_true, Bool.and_eq_true, decide_eq_true_eq, decide_eq_true_eq, Bool.or_eq_true, decide_eq_true_eq] at he
  unfold ftC
  by_cases h : edI x A e < 0 ∨ edI z B e < 0
  · rw [if_pos h]
    have e4 : e = 4 := by
      rcases h with h | h
      · exact edI_neg a0 ⟨he.1, he.2.1⟩ h
      · exact edI_neg b0 ⟨he.1, he.2.1⟩ h
    rcases he.2.2 with h5 | h5
    · exact absurd e4 h5
    · exact gdC_iff.1 h5
  · rw [if_neg h]
    exact px_ok l L _ hf hb
theorem s4_ok (l A B : Int) (L : List Int) (u v e : Int) (c : Col) (hf : l = 1 ∨ l = 2 ∨ l = 3) (hb : ∀ j, j < L.length → 0 ≤ L.getD j 0 ∧ L.getD j 0 ≤ 255) (a0 : 1 ≤ A) (b0 : 1 ≤ B) (he : egB e c.r c.g c.b c.a = true) (i : Nat) : (s4C l A B L u v e c i).ok := by
  unfold s4C
  split
  · exact ft_ok l A B L _ _ e c hf hb a0 b0 he
  · split
    · exact ft_ok l A B L _ _ e c hf hb a0 b0 he
    · split
      · exact ft_ok l A B L _ _ e c hf hb a0 b0 he
      · exact ft_ok l A B L _ _ e c hf hb a0 b0 he
def cellsK : List Col → List Value
  | [] => []
  | q :: r => .int .i64 q.r :: .int .i64 q.g :: .int .i64 q.b :: .int .i64 q.a :: cellsK r
theorem cellsK_app : ∀ (l m : List Col), cellsK (l ++ m) = cellsK l ++ cellsK m
  | [], m => rfl
  | q :: r, m => by simp [cellsK, cellsK_app r m]
/-- A row of colors of one's own, from block B on. -/
def KR (B : Nat) (w : World) (v : Value) (L : List Col) : Prop := w.ownsRow B 25 4 v L.length (cellsK L) ∧ B ≤ w.heap.size
theorem KR.nil (B : Nat) (w : World) (h : B ≤ w.heap.size) : KR B w (.slice none 0 0) [] := ⟨World.ownsRow_nil _ _ _ _, h⟩
theorem KR.lt {B : Nat} {w : World} {v : Value} {L : List Col} (h : KR B w v L) : ∀ g, v.ownBlock = some g → B ≤ g ∧ g < w.heap.size := fun g hg => h.1.lt g hg
theorem KR.next {B : Nat} {w w' : World} {v : Value} {L : List Col} (h : KR B w v L) (b : Below w.heap.size w w') : KR B w' v L := ⟨h.1.kept (row := none) ⟨b.os, b.tape, b.output, b.size, fun i hi _ => b.block i hi⟩ (by cases hv : v.ownBlock <;> simp), Nat.le_trans h.2 b.size⟩
theorem KR.alloc {B : Nat} {w : World} {v : Value} {L : List Col} (h : KR B w v L) (o : Obj) : KR B (w.alloc o) v L := h.next alloc_b
theorem infoCo : (Try.prog.info? 25).map (fun i => (i.zero, i.size, i.bytes)) = some (some (.agg #[.int .i64 0, .int .i64 0, .int .i64 0, .int .i64 0]), 4, 32) := by kernel_rfl
theorem run_append_col {w : World} {ty : TypeId} {B p c : Nat} {v : Value} {L : List Col} {q : Col} (R : KR B w v L) (Y : C4 w p (.int .i64 q.r) (.int .i64 q.g) (.int .i64 q.b) (.int .i64 q.a)) (hl : L.length < 1000000) :
    ∃ g cap w', (Builtin.append_ #[51, 51] ty #[v, .slice (some ⟨p, 0, none⟩) 1 c]).run Try.prog w = .ok (.slice (some ⟨g, 0, none⟩) (L.length + 1) cap) w' ∧ KR B w' (.slice (some ⟨g, 0, none⟩) (L.length + 1) cap) (L ++ [q]) ∧ w.grownBy w' v.ownBlock := by
  obtain ⟨i0, hi, hz0, hz1, hz2⟩ := info_parts infoCo
  obtain ⟨v', w', h1, h2, h3, -, -⟩ := run_append_own_at (P := Try.prog) w B 51 ty 25 i0 (.agg #[.int .i64 0, .int .i64 0, .int .i64 0, .int .i64 0]) 4 32 Try.underlying51 hi hz0 hz1 hz2 rfl (by decide) v L.length (cellsK L) R.1 ⟨p, 0, none⟩ 1 c [.int .i64 q.r, .int .i64 q.g, .int .i64 q.b, .int .i64 q.a] rfl
    (by
      intro j u hj
      match j, hj with
      | 0, hj => simp at hj; subst hj; simpa [Addr.add] using Y.c0
      | 1, hj => simp at hj; subst hj; simpa [Addr.add] using Y.c1
      | 2, hj => simp at hj; subst hj; simpa [Addr.add] using Y.c2
      | 3, hj => simp at hj; subst hj; simpa [Addr.add] using Y.c3)
    (by intro u hu; simp at hu; rcases hu with rfl | rfl | rfl | rfl <;> rfl) (by unfold maxLen; omega) (by omega) R.2
  obtain ⟨g, cap, rfl⟩ : ∃ g cap, v' = .slice (some ⟨g, 0, none⟩) (L.length + 1) cap := by
    rcases h2.2 with ⟨_, h0⟩ | ⟨g, cap, cur, h0, _⟩
    · omega
    · exact ⟨g, cap, h0⟩
  refine ⟨g, cap, w', h1, ⟨?_, Nat.le_trans R.2 h3.size⟩, h3⟩
  rw [List.length_append, cellsK_app]
  exact h2
/-- The first k of a function's colors. -/
def cL (C : Nat → Col) : Nat → List Col
  | 0 => []
  | k + 1 => cL C k ++ [C k]
theorem cL_len (C : Nat → Col) : ∀ k, (cL C k).length = k
  | 0 => rfl
  | k + 1 => by rw [cL, List.length_append, cL_len C k]; rfl
theorem cellsK_len : ∀ L : List Col, (cellsK L).length = L.length * 4
  | [] => rfl
  | q :: r => by simp only [cellsK, List.length_cons, cellsK_len r]; omega
theorem cK_at (C : Nat → Col) : ∀ k i, i < k → (cellsK (cL C k))[i * 4]? = some (.int .i64 (C i).r) ∧ (cellsK (cL C k))[i * 4 + 1]? = some (.int .i64 (C i).g) ∧ (cellsK (cL C k))[i * 4 + 2]? = some (.int .i64 (C i).b) ∧ (cellsK (cL C k))[i * 4 + 3]? = some (.int .i64 (C i).a)
  | 0, i, h => absurd h (Nat.not_lt_zero _)
  | k + 1, i, h => by
    have hl : (cellsK (cL C k)).length = k * 4 := by rw [cellsK_len, cL_len]
    rw [cL, cellsK_app]
    by_cases e : i = k
    · subst e
      refine ⟨?_, ?_, ?_, ?_⟩
      · rw [List.getElem?_append_right (by omega), hl, Nat.sub_self]; rfl
      · rw [List.getElem?_append_right (by omega), hl, show i * 4 + 1 - i * 4 = 1 by omega]; rfl
      · rw [List.getElem?_append_right (by omega), hl, show i * 4 + 2 - i * 4 = 2 by omega]; rfl
      · rw [List.getElem?_append_right (by omega), hl, show i * 4 + 3 - i * 4 = 3 by omega]; rfl
    · have q := cK_at C k i (by omega)
      refine ⟨?_, ?_, ?_, ?_⟩
      · rw [List.getElem?_append_left (by omega)]; exact q.1
      · rw [List.getElem?_append_left (by omega)]; exact q.2.1
      · rw [List.getElem?_append_left (by omega)]; exact q.2.2.1
      · rw [List.getElem?_append_left (by omega)]; exact q.2.2.2
theorem KR.crow {B k : Nat} {w : World} {v : Value} {C : Nat → Col} (h : KR B w v (cL C k)) (hk : 0 < k) : CRow w v k C := by
  have h2 := h.1
  rw [cL_len] at h2
  rcases h2.2 with ⟨_, h0⟩ | ⟨g, cap, cur, rfl, _⟩
  · omega
  · refine ⟨g, 0, cap, rfl, fun i hi => ?_⟩
    have q := cK_at C k i hi
    refine ⟨?_, ?_, ?_, ?_⟩
    · rw [show 0 + i * 4 = i * 4 by omega, h2.cellAt _ (by omega)]; exact q.1
    · rw [show 0 + i * 4 + 1 = i * 4 + 1 by omega, h2.cellAt _ (by omega)]; exact q.2.1
    · rw [show 0 + i * 4 + 2 = i * 4 + 2 by omega, h2.cellAt _ (by omega)]; exact q.2.2.1
    · rw [show 0 + i * 4 + 3 = i * 4 + 3 by omega, h2.cellAt _ (by omega)]; exact q.2.2.2
theorem new2 (w : World) (t : TypeId) (x y : Value) : (w.alloc (.cells #[x, y] t)).cell? ⟨w.heap.size, 0, none⟩ = some x ∧ (w.alloc (.cells #[x, y] t)).cell? ⟨w.heap.size, 1, none⟩ = some y := ⟨by simp, by simp⟩
def pX (X : Int) (i : Nat) : Int := if i = 0 then X else if i = 1 then X + 1 else if i = 2 then X else X + 1
def pZ (Z : Int) (i : Nat) : Int := if i = 0 then Z else if i = 1 then Z else if i = 2 then Z + 1 else Z + 1
theorem s4_is (l A B : Int) (L : List Int) (u v e : Int) (c : Col) (i : Nat) : s4C l A B L u v e c i = ftC l A B L (pX ((u - 128) / 256) i) (pZ ((v - 128) / 256) i) e c := by
  unfold s4C pX pZ
  by_cases h0 : i = 0
  · rw [if_pos h0, if_pos h0, if_pos h0]
  · rw [if_neg h0, if_neg h0, if_neg h0]
    by_cases h1 : i = 1
    · rw [if_pos h1, if_pos h1, if_pos h1]
    · rw [if_neg h1, if_neg h1, if_neg h1]
      by_cases h2 : i = 2
      · rw [if_pos h2, if_pos h2, if_pos h2]
      · rw [if_neg h2, if_neg h2, if_neg h2]
set_option maxRecDepth 100000 in
set_option maxHeartbeats 8000000 in
theorem msmp (s y l : Int) (v : Value) (n lk : Nat) (F : Nat → List Int) (u vv e : Int) (c : Col) (w : World) (R : BRows w v n F) (hg : gtB s y l n F = true) (hk : lk < n) (bf : ByF n F) (he : egB e c.r c.g c.b c.a = true) (hu : -100000 ≤ u ∧ u ≤ 100000) (hv : -100000 ≤ vv ∧ vv ≤ 100000) (hn : n ≤ 1048576) (hfl : ∀ x, x < n → (F x).length ≤ 1048576) :
    Calls Try.prog 66 #[.agg #[.int .i64 s, .int .i64 y, .int .i64 l, v], .int .i64 (lk : Int), .int .i64 u, .int .i64 vv, .int .i64 e, colV c] w fun e' w' => e' = .returned (colV (blC 4 (s4C l (sdI s lk) (sdI y lk) (F lk) u vv e c) (s4T u vv))) ∧ Below w.heap.size w w' := by
  obtain ⟨gs1, gs2, hfb, hnl, hlen⟩ := (gt_iff s y l n F).1 hg
  have hf : l = 1 ∨ l = 2 ∨ l = 3 := by
    rcases fm_cases l with h | h | h | h
    · exact Or.inl h
    · exact Or.inr (Or.inl h)
    · exact Or.inr (Or.inr h)
    · rw [(fm_no h).2.1] at hfb; cases hfb
  have HOK : Hid (∀ i, (s4C l (sdI s lk) (sdI y lk) (F lk) u vv e c i).ok) := fun i => s4_ok _ _ _ _ _ _ _ _ hf (fun j hj => bf lk j hk hj) (sdI_pos _ _) (sdI_pos _ _) he i
  obtain ⟨X, hX⟩ : ∃ X, (u - 128) / 256 = X := ⟨_, rfl⟩
  obtain ⟨Z, hZ⟩ : ∃ Z, (vv - 128) / 256 = Z := ⟨_, rfl⟩
  obtain ⟨a, ha⟩ : ∃ a, (u - 128) % 256 = a := ⟨_, rfl⟩
  obtain ⟨b, hb⟩ : ∃ b, (vv - 128) % 256 = b := ⟨_, rfl⟩
  have x0 : -1000 ≤ X ∧ X ≤ 1000 := by omega
  have z0 : -1000 ≤ Z ∧ Z ≤ 1000 := by omega
  have a0 : 0 ≤ a ∧ a ≤ 255 := by omega
  have b0 : 0 ≤ b ∧ b ≤ 255 := by omega
  have hae : u - 128 - 256 * X = a := by omega
  have hbe : vv - 128 - 256 * Z = b := by omega
  have HFE : Hid (∀ i, i < 4 → ∀ w', Below w.heap.size w w' → Calls Try.prog 62 #[.agg #[.int .i64 s, .int .i64 y, .int .i64 l, v], .int .i64 (lk : Int), .int .i64 (pX X i), .int .i64 (pZ Z i), .int .i64 e, colV c] w' fun e' w'' => e' = .returned (colV (s4C l (sdI s lk) (sdI y lk) (F lk) u vv e c i)) ∧ Below w'.heap.size w' w'') := fun i hi w' b => by
    rw [s4_is, hX, hZ]
    exact mfetch s y l v n lk F _ _ e c w' (R.next b) hg hk bf (by unfold pX I64; split <;> (try split) <;> (try split) <;> omega) (by unfold pZ I64; split <;> (try split) <;> (try split) <;> omega) hn hfl
  have HT4 : Hid (s4T u vv 0 = (256 - a) * (256 - b) ∧ s4T u vv 1 = a * (256 - b) ∧ s4T u vv 2 = (256 - a) * b ∧ s4T u vv 3 = a * b) := by rw [← ha, ← hb]; exact ⟨rfl, rfl, rfl, rfl⟩
  have HTB := Hid.mk (s4T_bnd u vv)
  have HSB : Hid (suC 4 (s4C l (sdI s lk) (sdI y lk) (F lk) u vv e c) (s4T u vv) 32768 65536 = blC 4 (s4C l (sdI s lk) (sdI y lk) (F lk) u vv e c) (s4T u vv)) := su_bl 4 _ _ _ _ (s4T_al u vv) (by decide)
  have HMF1 : Hid (∀ w, Calls Try.prog 84 #[.int .i64 (u - 128), .int .i64 256] w fun e w' => e = .returned (.int .i64 X) ∧ w' = w) := fun w => by rw [← hX]; exact mfloor (u - 128) w (by omega) (by omega)
  have HMF2 : Hid (∀ w, Calls Try.prog 84 #[.int .i64 (vv - 128), .int .i64 256] w fun e w' => e = .returned (.int .i64 Z) ∧ w' = w) := fun w => by rw [← hZ]; exact mfloor (vv - 128) w (by omega) (by omega)
  generalize blC 4 (s4C l (sdI s lk) (sdI y lk) (F lk) u vv e c) (s4T u vv) = Q at HSB ⊢
  generalize s4C l (sdI s lk) (sdI y lk) (F lk) u vv e c = C at HFE HOK HSB
  obtain ⟨ad, cp, rfl, -⟩ := R
  clear gs1 gs2 hfb hnl hlen hf bf he hfl hg hX hZ ha hb hk hn
  unfold colV at HFE ⊢
  obtain ⟨u1, u2⟩ := hu
  obtain ⟨v1, v2⟩ := hv
  obtain ⟨x1, x2⟩ := x0
  obtain ⟨z1, z2⟩ := z0
  obtain ⟨a1, a2⟩ := a0
  obtain ⟨b1, b2⟩ := b0
  have TB0 := ((C4.new w 43 (.int .i64 s) (.int .i64 y) (.int .i64 l) (.slice ad n cp)).next (alloc_b (o := (.cells #[.int .i64 c.r, .int .i64 c.g, .int .i64 c.b, .int .i64 c.a] 25)))).next (alloc_b (o := (.cells #[.int .i64 0, .int .i64 0, .int .i64 0, .int .i64 0] 25)))
  have KB0 : C4 (((w.alloc (.cells #[.int .i64 s, .int .i64 y, .int .i64 l, .slice ad n cp] 43)).alloc (.cells #[.int .i64 c.r, .int .i64 c.g, .int .i64 c.b, .int .i64 c.a] 25)).alloc (.cells #[.int .i64 0, .int .i64 0, .int .i64 0, .int .i64 0] 25)) (w.heap.size + 1) (.int .i64 c.r) (.int .i64 c.g) (.int .i64 c.b) (.int .i64 c.a) := by
    have h := (C4.new (w.alloc (.cells #[.int .i64 s, .int .i64 y, .int .i64 l, .slice ad n cp] 43)) 25 (.int .i64 c.r) (.int .i64 c.g) (.int .i64 c.b) (.int .i64 c.a)).next (alloc_b (o := (.cells #[.int .i64 0, .int .i64 0, .int .i64 0, .int .i64 0] 25)))
    rwa [World.size_alloc] at h
  have RB0 : C4 (((w.alloc (.cells #[.int .i64 s, .int .i64 y, .int .i64 l, .slice ad n cp] 43)).alloc (.cells #[.int .i64 c.r, .int .i64 c.g, .int .i64 c.b, .int .i64 c.a] 25)).alloc (.cells #[.int .i64 0, .int .i64 0, .int .i64 0, .int .i64 0] 25)) (w.heap.size + 1 + 1) (.int .i64 0) (.int .i64 0) (.int .i64 0) (.int .i64 0) := by
    have h := C4.new ((w.alloc (.cells #[.int .i64 s, .int .i64 y, .int .i64 l, .slice ad n cp] 43)).alloc (.cells #[.int .i64 c.r, .int .i64 c.g, .int .i64 c.b, .int .i64 c.a] 25)) 25 (.int .i64 0) (.int .i64 0) (.int .i64 0) (.int .i64 0)
    rwa [World.size_alloc, World.size_alloc] at h
  have BV : Below w.heap.size w (((w.alloc (.cells #[.int .i64 s, .int .i64 y, .int .i64 l, .slice ad n cp] 43)).alloc (.cells #[.int .i64 c.r, .int .i64 c.g, .int .i64 c.b, .int .i64 c.a] 25)).alloc (.cells #[.int .i64 0, .int .i64 0, .int .i64 0, .int .i64 0] 25)) := b3
  obtain ⟨V0, hV0⟩ : ∃ z, (((w.alloc (.cells #[.int .i64 s, .int .i64 y, .int .i64 l, .slice ad n cp] 43)).alloc (.cells #[.int .i64 c.r, .int .i64 c.g, .int .i64 c.b, .int .i64 c.a] 25)).alloc (.cells #[.int .i64 0, .int .i64 0, .int .i64 0, .int .i64 0] 25)) = z := ⟨_, rfl⟩
  obtain ⟨tb, htbe⟩ : ∃ z, w.heap.size = z := ⟨_, rfl⟩
  have hVs : V0.heap.size = w.heap.size + 1 + 1 + 1 := by rw [← hV0]; simp
  have HV0 := Hid.mk hV0
  rw [hV0] at TB0 KB0 RB0 BV
  have hwt : w.heap.size ≤ tb := by omega
  rw [htbe] at TB0 KB0 RB0 hVs
  have HTBE := Hid.mk htbe
  clear hV0 htbe
  go_enter Try.func66, Try.ntmps66
  go_upto_region 1 with fail
  rw [HV0.out, HTBE.out]
  clear HV0
  go_upto_region 6 with (first | (go_at_call 84; (with_reducible show Calls Try.prog 84 #[.int .i64 (u - 128), _] _ _); refine (HMF1.out _).mono ?_; rintro e9 w9 ⟨rfl, hw⟩; subst w9) | (go_at_call 84; (with_reducible show Calls Try.prog 84 #[.int .i64 (vv - 128), _] _ _); refine (HMF2.out _).mono ?_; rintro e9 w9 ⟨rfl, hw⟩; subst w9))
  clear hVs
  obtain ⟨N0, hN0⟩ : ∃ z, V0.heap.size = z := ⟨_, rfl⟩
  have e0 : V0.heap.size = N0 := by exact hN0
  have c00 : (V0.alloc (.cells #[.int .i64 (X), .int .i64 (Z)] 3)).cell? ⟨N0, 0, none⟩ = some (.int .i64 (X)) := by rw [← e0]; exact (new2 V0 3 _ _).1
  replace c00 := cell_nx c00 (alloc_b (o := (.cells #[.int .i64 (X + 1), .int .i64 (Z)] 3)))
  replace c00 := cell_nx c00 (alloc_b (o := (.cells #[.int .i64 (X), .int .i64 (Z + 1)] 3)))
  replace c00 := cell_nx c00 (alloc_b (o := (.cells #[.int .i64 (X + 1), .int .i64 (Z + 1)] 3)))
  replace c00 := cell_nx c00 (alloc_b (o := (.cells #[.slice (some ⟨N0, 0, none⟩) 2 2, .slice (some ⟨N0 + 1, 0, none⟩) 2 2, .slice (some ⟨N0 + 1 + 1, 0, none⟩) 2 2, .slice (some ⟨N0 + 1 + 1 + 1, 0, none⟩) 2 2] 73)))
  have c01 : (V0.alloc (.cells #[.int .i64 (X), .int .i64 (Z)] 3)).cell? ⟨N0, 1, none⟩ = some (.int .i64 (Z)) := by rw [← e0]; exact (new2 V0 3 _ _).2
  replace c01 := cell_nx c01 (alloc_b (o := (.cells #[.int .i64 (X + 1), .int .i64 (Z)] 3)))
  replace c01 := cell_nx c01 (alloc_b (o := (.cells #[.int .i64 (X), .int .i64 (Z + 1)] 3)))
  replace c01 := cell_nx c01 (alloc_b (o := (.cells #[.int .i64 (X + 1), .int .i64 (Z + 1)] 3)))
  replace c01 := cell_nx c01 (alloc_b (o := (.cells #[.slice (some ⟨N0, 0, none⟩) 2 2, .slice (some ⟨N0 + 1, 0, none⟩) 2 2, .slice (some ⟨N0 + 1 + 1, 0, none⟩) 2 2, .slice (some ⟨N0 + 1 + 1 + 1, 0, none⟩) 2 2] 73)))
  have e1 : (V0.alloc (.cells #[.int .i64 (X), .int .i64 (Z)] 3)).heap.size = N0 + 1 := by simp [hN0]
  have c10 : ((V0.alloc (.cells #[.int .i64 (X), .int .i64 (Z)] 3)).alloc (.cells #[.int .i64 (X + 1), .int .i64 (Z)] 3)).cell? ⟨N0 + 1, 0, none⟩ = some (.int .i64 (X + 1)) := by rw [← e1]; exact (new2 (V0.alloc (.cells #[.int .i64 (X), .int .i64 (Z)] 3)) 3 _ _).1
  replace c10 := cell_nx c10 (alloc_b (o := (.cells #[.int .i64 (X), .int .i64 (Z + 1)] 3)))
  replace c10 := cell_nx c10 (alloc_b (o := (.cells #[.int .i64 (X + 1), .int .i64 (Z + 1)] 3)))
  replace c10 := cell_nx c10 (alloc_b (o := (.cells #[.slice (some ⟨N0, 0, none⟩) 2 2, .slice (some ⟨N0 + 1, 0, none⟩) 2 2, .slice (some ⟨N0 + 1 + 1, 0, none⟩) 2 2, .slice (some ⟨N0 + 1 + 1 + 1, 0, none⟩) 2 2] 73)))
  have c11 : ((V0.alloc (.cells #[.int .i64 (X), .int .i64 (Z)] 3)).alloc (.cells #[.int .i64 (X + 1), .int .i64 (Z)] 3)).cell? ⟨N0 + 1, 1, none⟩ = some (.int .i64 (Z)) := by rw [← e1]; exact (new2 (V0.alloc (.cells #[.int .i64 (X), .int .i64 (Z)] 3)) 3 _ _).2
  replace c11 := cell_nx c11 (alloc_b (o := (.cells #[.int .i64 (X), .int .i64 (Z + 1)] 3)))
  replace c11 := cell_nx c11 (alloc_b (o := (.cells #[.int .i64 (X + 1), .int .i64 (Z + 1)] 3)))
  replace c11 := cell_nx c11 (alloc_b (o := (.cells #[.slice (some ⟨N0, 0, none⟩) 2 2, .slice (some ⟨N0 + 1, 0, none⟩) 2 2, .slice (some ⟨N0 + 1 + 1, 0, none⟩) 2 2, .slice (some ⟨N0 + 1 + 1 + 1, 0, none⟩) 2 2] 73)))
  have e2 : ((V0.alloc (.cells #[.int .i64 (X), .int .i64 (Z)] 3)).alloc (.cells #[.int .i64 (X + 1), .int .i64 (Z)] 3)).heap.size = N0 + 1 + 1 := by simp [hN0]
  have c20 : (((V0.alloc (.cells #[.int .i64 (X), .int .i64 (Z)] 3)).alloc (.cells #[.int .i64 (X + 1), .int .i64 (Z)] 3)).alloc (.cells #[.int .i64 (X), .int .i64 (Z + 1)] 3)).cell? ⟨N0 + 1 + 1, 0, none⟩ = some (.int .i64 (X)) := by rw [← e2]; exact (new2 ((V0.alloc (.cells #[.int .i64 (X), .int .i64 (Z)] 3)).alloc (.cells #[.int .i64 (X + 1), .int .i64 (Z)] 3)) 3 _ _).1
  replace c20 := cell_nx c20 (alloc_b (o := (.cells #[.int .i64 (X + 1), .int .i64 (Z + 1)] 3)))
  replace c20 := cell_nx c20 (alloc_b (o := (.cells #[.slice (some ⟨N0, 0, none⟩) 2 2, .slice (some ⟨N0 + 1, 0, none⟩) 2 2, .slice (some ⟨N0 + 1 + 1, 0, none⟩) 2 2, .slice (some ⟨N0 + 1 + 1 + 1, 0, none⟩) 2 2] 73)))
  have c21 : (((V0.alloc (.cells #[.int .i64 (X), .int .i64 (Z)] 3)).alloc (.cells #[.int .i64 (X + 1), .int .i64 (Z)] 3)).alloc (.cells #[.int .i64 (X), .int .i64 (Z + 1)] 3)).cell? ⟨N0 + 1 + 1, 1, none⟩ = some (.int .i64 (Z + 1)) := by rw [← e2]; exact (new2 ((V0.alloc (.cells #[.int .i64 (X), .int .i64 (Z)] 3)).alloc (.cells #[.int .i64 (X + 1), .int .i64 (Z)] 3)) 3 _ _).2
  replace c21 := cell_nx c21 (alloc_b (o := (.cells #[.int .i64 (X + 1), .int .i64 (Z + 1)] 3)))
  replace c21 := cell_nx c21 (alloc_b (o := (.cells #[.slice (some ⟨N0, 0, none⟩) 2 2, .slice (some ⟨N0 + 1, 0, none⟩) 2 2, .slice (some ⟨N0 + 1 + 1, 0, none⟩) 2 2, .slice (some ⟨N0 + 1 + 1 + 1, 0, none⟩) 2 2] 73)))
  have e3 : (((V0.alloc (.cells #[.int .i64 (X), .int .i64 (Z)] 3)).alloc (.cells #[.int .i64 (X + 1), .int .i64 (Z)] 3)).alloc (.cells #[.int .i64 (X), .int .i64 (Z + 1)] 3)).heap.size = N0 + 1 + 1 + 1 := by simp [hN0]
  have c30 : ((((V0.alloc (.cells #[.int .i64 (X), .int .i64 (Z)] 3)).alloc (.cells #[.int .i64 (X + 1), .int .i64 (Z)] 3)).alloc (.cells #[.int .i64 (X), .int .i64 (Z + 1)] 3)).alloc (.cells #[.int .i64 (X + 1), .int .i64 (Z + 1)] 3)).cell? ⟨N0 + 1 + 1 + 1, 0, none⟩ = some (.int .i64 (X + 1)) := by rw [← e3]; exact (new2 (((V0.alloc (.cells #[.int .i64 (X), .int .i64 (Z)] 3)).alloc (.cells #[.int .i64 (X + 1), .int .i64 (Z)] 3)).alloc (.cells #[.int .i64 (X), .int .i64 (Z + 1)] 3)) 3 _ _).1
  replace c30 := cell_nx c30 (alloc_b (o := (.cells #[.slice (some ⟨N0, 0, none⟩) 2 2, .slice (some ⟨N0 + 1, 0, none⟩) 2 2, .slice (some ⟨N0 + 1 + 1, 0, none⟩) 2 2, .slice (some ⟨N0 + 1 + 1 + 1, 0, none⟩) 2 2] 73)))
  have c31 : ((((V0.alloc (.cells #[.int .i64 (X), .int .i64 (Z)] 3)).alloc (.cells #[.int .i64 (X + 1), .int .i64 (Z)] 3)).alloc (.cells #[.int .i64 (X), .int .i64 (Z + 1)] 3)).alloc (.cells #[.int .i64 (X + 1), .int .i64 (Z + 1)] 3)).cell? ⟨N0 + 1 + 1 + 1, 1, none⟩ = some (.int .i64 (Z + 1)) := by rw [← e3]; exact (new2 (((V0.alloc (.cells #[.int .i64 (X), .int .i64 (Z)] 3)).alloc (.cells #[.int .i64 (X + 1), .int .i64 (Z)] 3)).alloc (.cells #[.int .i64 (X), .int .i64 (Z + 1)] 3)) 3 _ _).2
  replace c31 := cell_nx c31 (alloc_b (o := (.cells #[.slice (some ⟨N0, 0, none⟩) 2 2, .slice (some ⟨N0 + 1, 0, none⟩) 2 2, .slice (some ⟨N0 + 1 + 1, 0, none⟩) 2 2, .slice (some ⟨N0 + 1 + 1 + 1, 0, none⟩) 2 2] 73)))
  have e4 : ((((V0.alloc (.cells #[.int .i64 (X), .int .i64 (Z)] 3)).alloc (.cells #[.int .i64 (X + 1), .int .i64 (Z)] 3)).alloc (.cells #[.int .i64 (X), .int .i64 (Z + 1)] 3)).alloc (.cells #[.int .i64 (X + 1), .int .i64 (Z + 1)] 3)).heap.size = N0 + 1 + 1 + 1 + 1 := by simp [hN0]
  have l0 : (((((V0.alloc (.cells #[.int .i64 (X), .int .i64 (Z)] 3)).alloc (.cells #[.int .i64 (X + 1), .int .i64 (Z)] 3)).alloc (.cells #[.int .i64 (X), .int .i64 (Z + 1)] 3)).alloc (.cells #[.int .i64 (X + 1), .int .i64 (Z + 1)] 3)).alloc (.cells #[.slice (some ⟨N0, 0, none⟩) 2 2, .slice (some ⟨N0 + 1, 0, none⟩) 2 2, .slice (some ⟨N0 + 1 + 1, 0, none⟩) 2 2, .slice (some ⟨N0 + 1 + 1 + 1, 0, none⟩) 2 2] 73)).cell? ⟨N0 + 1 + 1 + 1 + 1, 0, none⟩ = some (.slice (some ⟨N0, 0, none⟩) 2 2) := by rw [← e4]; exact (C4.new ((((V0.alloc (.cells #[.int .i64 (X), .int .i64 (Z)] 3)).alloc (.cells #[.int .i64 (X + 1), .int .i64 (Z)] 3)).alloc (.cells #[.int .i64 (X), .int .i64 (Z + 1)] 3)).alloc (.cells #[.int .i64 (X + 1), .int .i64 (Z + 1)] 3)) 73 _ _ _ _).c0
  have l1 : (((((V0.alloc (.cells #[.int .i64 (X), .int .i64 (Z)] 3)).alloc (.cells #[.int .i64 (X + 1), .int .i64 (Z)] 3)).alloc (.cells #[.int .i64 (X), .int .i64 (Z + 1)] 3)).alloc (.cells #[.int .i64 (X + 1), .int .i64 (Z + 1)] 3)).alloc (.cells #[.slice (some ⟨N0, 0, none⟩) 2 2, .slice (some ⟨N0 + 1, 0, none⟩) 2 2, .slice (some ⟨N0 + 1 + 1, 0, none⟩) 2 2, .slice (some ⟨N0 + 1 + 1 + 1, 0, none⟩) 2 2] 73)).cell? ⟨N0 + 1 + 1 + 1 + 1, 1, none⟩ = some (.slice (some ⟨N0 + 1, 0, none⟩) 2 2) := by rw [← e4]; exact (C4.new ((((V0.alloc (.cells #[.int .i64 (X), .int .i64 (Z)] 3)).alloc (.cells #[.int .i64 (X + 1), .int .i64 (Z)] 3)).alloc (.cells #[.int .i64 (X), .int .i64 (Z + 1)] 3)).alloc (.cells #[.int .i64 (X + 1), .int .i64 (Z + 1)] 3)) 73 _ _ _ _).c1
  have l2 : (((((V0.alloc (.cells #[.int .i64 (X), .int .i64 (Z)] 3)).alloc (.cells #[.int .i64 (X + 1), .int .i64 (Z)] 3)).alloc (.cells #[.int .i64 (X), .int .i64 (Z + 1)] 3)).alloc (.cells #[.int .i64 (X + 1), .int .i64 (Z + 1)] 3)).alloc (.cells #[.slice (some ⟨N0, 0, none⟩) 2 2, .slice (some ⟨N0 + 1, 0, none⟩) 2 2, .slice (some ⟨N0 + 1 + 1, 0, none⟩) 2 2, .slice (some ⟨N0 + 1 + 1 + 1, 0, none⟩) 2 2] 73)).cell? ⟨N0 + 1 + 1 + 1 + 1, 2, none⟩ = some (.slice (some ⟨N0 + 1 + 1, 0, none⟩) 2 2) := by rw [← e4]; exact (C4.new ((((V0.alloc (.cells #[.int .i64 (X), .int .i64 (Z)] 3)).alloc (.cells #[.int .i64 (X + 1), .int .i64 (Z)] 3)).alloc (.cells #[.int .i64 (X), .int .i64 (Z + 1)] 3)).alloc (.cells #[.int .i64 (X + 1), .int .i64 (Z + 1)] 3)) 73 _ _ _ _).c2
  have l3 : (((((V0.alloc (.cells #[.int .i64 (X), .int .i64 (Z)] 3)).alloc (.cells #[.int .i64 (X + 1), .int .i64 (Z)] 3)).alloc (.cells #[.int .i64 (X), .int .i64 (Z + 1)] 3)).alloc (.cells #[.int .i64 (X + 1), .int .i64 (Z + 1)] 3)).alloc (.cells #[.slice (some ⟨N0, 0, none⟩) 2 2, .slice (some ⟨N0 + 1, 0, none⟩) 2 2, .slice (some ⟨N0 + 1 + 1, 0, none⟩) 2 2, .slice (some ⟨N0 + 1 + 1 + 1, 0, none⟩) 2 2] 73)).cell? ⟨N0 + 1 + 1 + 1 + 1, 3, none⟩ = some (.slice (some ⟨N0 + 1 + 1 + 1, 0, none⟩) 2 2) := by rw [← e4]; exact (C4.new ((((V0.alloc (.cells #[.int .i64 (X), .int .i64 (Z)] 3)).alloc (.cells #[.int .i64 (X + 1), .int .i64 (Z)] 3)).alloc (.cells #[.int .i64 (X), .int .i64 (Z + 1)] 3)).alloc (.cells #[.int .i64 (X + 1), .int .i64 (Z + 1)] 3)) 73 _ _ _ _).c3
  clear e0 e1 e2 e3 e4
  have HP6 : Hid (∃ p : Nat → Nat, ∀ i, i < 4 → (((((V0.alloc (.cells #[.int .i64 (X), .int .i64 (Z)] 3)).alloc (.cells #[.int .i64 (X + 1), .int .i64 (Z)] 3)).alloc (.cells #[.int .i64 (X), .int .i64 (Z + 1)] 3)).alloc (.cells #[.int .i64 (X + 1), .int .i64 (Z + 1)] 3)).alloc (.cells #[.slice (some ⟨N0, 0, none⟩) 2 2, .slice (some ⟨N0 + 1, 0, none⟩) 2 2, .slice (some ⟨N0 + 1 + 1, 0, none⟩) 2 2, .slice (some ⟨N0 + 1 + 1 + 1, 0, none⟩) 2 2] 73)).cell? ⟨N0 + 1 + 1 + 1 + 1, i, none⟩ = some (.slice (some ⟨p i, 0, none⟩) 2 2) ∧ (((((V0.alloc (.cells #[.int .i64 (X), .int .i64 (Z)] 3)).alloc (.cells #[.int .i64 (X + 1), .int .i64 (Z)] 3)).alloc (.cells #[.int .i64 (X), .int .i64 (Z + 1)] 3)).alloc (.cells #[.int .i64 (X + 1), .int .i64 (Z + 1)] 3)).alloc (.cells #[.slice (some ⟨N0, 0, none⟩) 2 2, .slice (some ⟨N0 + 1, 0, none⟩) 2 2, .slice (some ⟨N0 + 1 + 1, 0, none⟩) 2 2, .slice (some ⟨N0 + 1 + 1 + 1, 0, none⟩) 2 2] 73)).cell? ⟨p i, 0, none⟩ = some (.int .i64 (pX X i)) ∧ (((((V0.alloc (.cells #[.int .i64 (X), .int .i64 (Z)] 3)).alloc (.cells #[.int .i64 (X + 1), .int .i64 (Z)] 3)).alloc (.cells #[.int .i64 (X), .int .i64 (Z + 1)] 3)).alloc (.cells #[.int .i64 (X + 1), .int .i64 (Z + 1)] 3)).alloc (.cells #[.slice (some ⟨N0, 0, none⟩) 2 2, .slice (some ⟨N0 + 1, 0, none⟩) 2 2, .slice (some ⟨N0 + 1 + 1, 0, none⟩) 2 2, .slice (some ⟨N0 + 1 + 1 + 1, 0, none⟩) 2 2] 73)).cell? ⟨p i, 1, none⟩ = some (.int .i64 (pZ Z i))) := by
    refine ⟨fun i => if i = 0 then N0 else if i = 1 then N0 + 1 else if i = 2 then N0 + 1 + 1 else N0 + 1 + 1 + 1, fun i hi => ?_⟩
    have h4 : i = 0 ∨ i = 1 ∨ i = 2 ∨ i = 3 := by omega
    rcases h4 with rfl | rfl | rfl | rfl
    · exact ⟨l0, c00, c01⟩
    · exact ⟨l1, c10, c11⟩
    · exact ⟨l2, c20, c21⟩
    · exact ⟨l3, c30, c31⟩
  have B06 : Below V0.heap.size V0 (((((V0.alloc (.cells #[.int .i64 (X), .int .i64 (Z)] 3)).alloc (.cells #[.int .i64 (X + 1), .int .i64 (Z)] 3)).alloc (.cells #[.int .i64 (X), .int .i64 (Z + 1)] 3)).alloc (.cells #[.int .i64 (X + 1), .int .i64 (Z + 1)] 3)).alloc (.cells #[.slice (some ⟨N0, 0, none⟩) 2 2, .slice (some ⟨N0 + 1, 0, none⟩) 2 2, .slice (some ⟨N0 + 1 + 1, 0, none⟩) 2 2, .slice (some ⟨N0 + 1 + 1 + 1, 0, none⟩) 2 2] 73)) := ((((alloc_b.trans (alloc_b.mono (by simp))).trans (alloc_b.mono (by simp; try omega))).trans (alloc_b.mono (by simp; try omega))).trans (alloc_b.mono (by simp; try omega)))
  clear l0 l1 l2 l3 c00 c01 c10 c11 c20 c21 c30 c31
  go_wp2
  obtain ⟨W6, hW6⟩ : ∃ z, (((((V0.alloc (.cells #[.int .i64 (X), .int .i64 (Z)] 3)).alloc (.cells #[.int .i64 (X + 1), .int .i64 (Z)] 3)).alloc (.cells #[.int .i64 (X), .int .i64 (Z + 1)] 3)).alloc (.cells #[.int .i64 (X + 1), .int .i64 (Z + 1)] 3)).alloc (.cells #[.slice (some ⟨N0, 0, none⟩) 2 2, .slice (some ⟨N0 + 1, 0, none⟩) 2 2, .slice (some ⟨N0 + 1 + 1, 0, none⟩) 2 2, .slice (some ⟨N0 + 1 + 1 + 1, 0, none⟩) 2 2] 73)) = z := ⟨_, rfl⟩
  rw [hW6] at HP6 B06 ⊢
  obtain ⟨p, hp⟩ := HP6.out
  have HP := Hid.mk hp
  have HN6 : Hid (V0.heap.size ≤ W6.heap.size) := B06.size
  have BW6 : Below w.heap.size w W6 := BV.trans (B06.mono BV.size)
  have TB6 := Hid.mk (TB0.next B06)
  have KB6 := Hid.mk (KB0.next B06)
  have RB6 := Hid.mk (RB0.next B06)
  obtain ⟨B0, hB0⟩ : ∃ z, W6.heap.size = z := ⟨_, rfl⟩
  have HB0 : Hid (B0 = W6.heap.size) := hB0.symm
  have htb : tb < B0 := by have := TB6.out.hi; omega
  have hkb : tb + 1 < B0 := by have := KB6.out.hi; omega
  have CN : KR B0 W6 (.slice none 0 0) (cL C 0) := KR.nil _ _ (by omega)
  clear hW6 hp HP6 B06 hB0 hN0 TB0 KB0 RB0 HMF1 HMF2 HN6
  go_loopw [17, 54] (fun cv i wr => ∃ (k : Nat) (v5 : Value), k ≤ 4 ∧ v5 = cv ∧ i = .int .i64 k ∧ Hid (KR B0 wr v5 (cL C k)) ∧ Below W6.heap.size W6 wr) (fun _ i _ => 4 - (intOf i).toNat)
  case atStart => exact ⟨0, _, by omega, rfl, rfl, CN, Below.refl _ _⟩
  case round =>
    clear CN
    obtain ⟨k, v5, hk, rfl, rfl, HR, B⟩ := hrel
    by_cases hk4 : k < 4
    case neg =>
      obtain rfl : k = 4 := by omega
      have RB := RB6.out.next B
      have BW : Below w.heap.size w wr := BW6.trans (B.mono BW6.size)
      obtain ⟨t0e, t1e, t2e, t3e⟩ := HT4.out
      have tb0 := HTB.out 0
      have tb1 := HTB.out 1
      have tb2 := HTB.out 2
      have tb3 := HTB.out 3
      rw [t0e] at tb0
      rw [t1e] at tb1
      rw [t2e] at tb2
      rw [t3e] at tb3
      have m0 : IntKind.i64.wrap ((256 - a) * (256 - b)) = (256 - a) * (256 - b) := (IntKind.wrap_i64 _).trans (by omega)
      have m1 : IntKind.i64.wrap (a * (256 - b)) = a * (256 - b) := (IntKind.wrap_i64 _).trans (by omega)
      have m2 : IntKind.i64.wrap ((256 - a) * b) = (256 - a) * b := (IntKind.wrap_i64 _).trans (by omega)
      have m3 : IntKind.i64.wrap (a * b) = a * b := (IntKind.wrap_i64 _).trans (by omega)
      have HSM : Hid (Calls Try.prog 69 #[v5, .slice (some ⟨wr.heap.size, 0, none⟩) 4 4, .int .i64 32768, .int .i64 65536] (wr.alloc (.cells #[.int .i64 ((256 - a) * (256 - b)), .int .i64 (a * (256 - b)), .int .i64 ((256 - a) * b), .int .i64 (a * b)] 3)) fun e w' => e = .returned (colV Q) ∧ Below (wr.alloc (.cells #[.int .i64 ((256 - a) * (256 - b)), .int .i64 (a * (256 - b)), .int .i64 ((256 - a) * b), .int .i64 (a * b)] 3)).heap.size (wr.alloc (.cells #[.int .i64 ((256 - a) * (256 - b)), .int .i64 (a * (256 - b)), .int .i64 ((256 - a) * b), .int .i64 (a * b)] 3)) w') := by
        have h := msum 4 C (s4T u vv) 32768 65536 v5 (.slice (some ⟨wr.heap.size, 0, none⟩) 4 4) (wr.alloc (.cells #[.int .i64 ((256 - a) * (256 - b)), .int .i64 (a * (256 - b)), .int .i64 ((256 - a) * b), .int .i64 (a * b)] 3)) ((HR.out.alloc _).crow (by decide)) ⟨_, 0, 4, rfl, fun i hi => by
          have h4 : i = 0 ∨ i = 1 ∨ i = 2 ∨ i = 3 := by omega
          rcases h4 with rfl | rfl | rfl | rfl
          · rw [t0e]; simp
          · rw [t1e]; simp
          · rw [t2e]; simp
          · rw [t3e]; simp⟩ (by decide) (fun i _ => HOK.out i) (fun i _ => HTB.out i) (by decide) (by decide)
        rw [HSB.out] at h
        exact h
      unfold colV at HSM
      obtain ⟨g5, c5, hv5⟩ : ∃ g5 c5, v5 = .slice (some ⟨g5, 0, none⟩) 4 c5 := by
        have h2 := HR.out.1
        rw [cL_len] at h2
        rcases h2.2 with ⟨_, h0⟩ | ⟨g, cap, cur, h0, _⟩
        · omega
        · exact ⟨g, cap, h0⟩
      subst hv5
      clear tb0 tb1 tb2 tb3 t0e t1e t2e t3e HP HFE HOK HSB HT4 HTB HR TB6 KB6 RB6
      go_wp2_with (go_at_call 69; refine HSM.out.mono ?_; rintro e9 w9 ⟨rfl, B9⟩; (have RB := (RB.next (alloc_b (o := (.cells #[.int .i64 ((256 - a) * (256 - b)), .int .i64 (a * (256 - b)), .int .i64 ((256 - a) * b), .int .i64 (a * b)] 3)))).next B9); (have r0 := RB.c0); (have r1 := RB.c1); (have r2 := RB.c2); (have r3 := RB.c3); (have rf := RB.f); (have BW9 : Below w.heap.size w w9 := (BW.alloc BW.size (.cells #[.int .i64 ((256 - a) * (256 - b)), .int .i64 (a * (256 - b)), .int .i64 ((256 - a) * b), .int .i64 (a * b)] 3)).trans (B9.mono (Nat.le_trans BW.size (alloc_b (v := wr) (o := (.cells #[.int .i64 ((256 - a) * (256 - b)), .int .i64 (a * (256 - b)), .int .i64 ((256 - a) * b), .int .i64 (a * b)] 3))).size))))
      have D6 := RB.put (.int .i64 Q.r) (.int .i64 Q.g) (.int .i64 Q.b) (.int .i64 Q.a)
      have B96 : Below w.heap.size w (set4 w9 (tb + 1 + 1) (.int .i64 Q.r) (.int .i64 Q.g) (.int .i64 Q.b) (.int .i64 Q.a)) := BW9.trans ((only_set4 w9 (tb + 1 + 1) _ _ _ _).below (by omega) BW9.size)
      clear r0 r1 r2 r3 rf RB
      unfold set4 at D6 B96
      have s0 := D6.c0
      have s1 := D6.c1
      have s2 := D6.c2
      have s3 := D6.c3
      exact bodyPost_ret (v := .agg #[.int .i64 Q.r, .int .i64 Q.g, .int .i64 Q.b, .int .i64 Q.a]) (by simp [results, Try.results66, go_sem, s0, s1, s2, s3]) rfl ⟨rfl, B96⟩
    obtain ⟨g0, g1, g2⟩ := HP.out k hk4
    have hpk : p k < B0 := by have h := World.block_lt_of_cell? _ _ g1; have := HB0.out; simp at h; omega
    have HFK0 := Hid.mk (HFE.out k hk4)
    have HLK : Hid (cL C (k + 1) = cL C k ++ [C k]) := rfl
    have hlen : (cL C k).length < 1000 := by rw [cL_len]; omega
    have RK := HR.out
    have i1 : (k : Int) < 4 := by omega
    have i0 : (0 : Int) ≤ (k : Int) := by omega
    replace g0 := cell_nx g0 B
    replace g1 := cell_nx g1 B
    replace g2 := cell_nx g2 B
    generalize cL C k = L at HLK hlen RK
    generalize C k = q at HLK HFK0
    generalize pX X k = xk at HFK0 g1
    generalize pZ Z k = zk at HFK0 g2
    generalize p k = pk at hpk g0 g1 g2
    have HFK : Hid (∀ w', Below w.heap.size w w' → Calls Try.prog 62 #[.agg #[.int .i64 s, .int .i64 y, .int .i64 l, .slice ad n cp], .int .i64 (lk : Int), .int .i64 xk, .int .i64 zk, .int .i64 e, .agg #[.int .i64 c.r, .int .i64 c.g, .int .i64 c.b, .int .i64 c.a]] w' fun e' w'' => e' = .returned (.agg #[.int .i64 q.r, .int .i64 q.g, .int .i64 q.b, .int .i64 q.a]) ∧ Below w'.heap.size w' w'') := HFK0
    have TB := TB6.out.next B
    have KB := KB6.out.next B
    have BX : Below w.heap.size w wr := BW6.trans (B.mono BW6.size)
    have B0X := B
    clear HFK0 HP HFE HR HSB HOK HTB HT4 TB6 KB6 RB6
    go_wp2
    replace TB := TB.next (below_drew (Below.refl _ _))
    replace KB := KB.next (below_drew (Below.refl _ _))
    replace g1 := cell_nx g1 (below_drew (Below.refl _ _))
    replace g2 := cell_nx g2 (below_drew (Below.refl _ _))
    have RX := RK.next (below_drew (Below.refl _ _))
    replace BX := below_drew BX
    replace B0X := below_drew B0X
    generalize hWW : wr.drew = WX at TB KB g1 g2 RX BX B0X
    refine wp_region_held_drew (S := fun v => C4 v tb (.int .i64 s) (.int .i64 y) (.int .i64 l) (.slice ad n cp) ∧ C4 v (tb + 1) (.int .i64 c.r) (.int .i64 c.g) (.int .i64 c.b) (.int .i64 c.a) ∧ v.cell? ⟨pk, 0, none⟩ = some (.int .i64 xk) ∧ v.cell? ⟨pk, 1, none⟩ = some (.int .i64 zk)) (by kernel_rfl) (by rw [hWW]; exact ⟨TB, KB, g1, g2⟩) (fun hH => ?_)
    rw [hWW] at hH ⊢
    clear hWW TB KB g0 g1 g2 RK B
    refine wpAnyH_take (i := 0) (oi := { dst := some 58, op := Op.move (Operand.tmp 17), type := 51, pos := "l16_texture.go:212", after := #[], guard := none }) (v := v5) rfl (by kernel_rfl) (by kernel_rfl) (by kernel_rfl) (fun _ _ _ h => h) (Or.inl ⟨by rfl, fun w0 hSw => by (go_simp)⟩) hH ?_
    simp only [Act.put, List.setIfInBounds_toArray, List.set_cons_zero, List.set_cons_succ]
    refine wpAnyH_take (i := 1) (oi := { dst := some 59, op := Op.load 43 (Operand.tmp 6), type := 43, pos := "l16_texture.go:212", after := #[], guard := none }) (v := .agg #[.int .i64 s, .int .i64 y, .int .i64 l, .slice ad n cp]) rfl (by kernel_rfl) (by kernel_rfl) (by kernel_rfl) (fun _ _ _ h => h) (Or.inl ⟨by rfl, fun w0 hSw => by ((have e0 := hSw.1.c0); (have e1 := hSw.1.c1); (have e2 := hSw.1.c2); (have e3 := hSw.1.c3); go_simp)⟩) hH ?_
    simp only [Act.put, List.setIfInBounds_toArray, List.set_cons_zero, List.set_cons_succ]
    refine wpAnyH_take (i := 2) (oi := { dst := some 60, op := Op.move (Operand.tmp 1), type := 3, pos := "l16_texture.go:212", after := #[], guard := none }) (v := .int .i64 (lk : Int)) rfl (by kernel_rfl) (by kernel_rfl) (by kernel_rfl) (fun _ _ _ h => h) (Or.inl ⟨by rfl, fun w0 hSw => by (go_simp)⟩) hH ?_
    simp only [Act.put, List.setIfInBounds_toArray, List.set_cons_zero, List.set_cons_succ]
    refine wpAnyH_take (i := 3) (oi := { dst := some 61, op := Op.move (Operand.tmp 19), type := 73, pos := "l16_texture.go:212", after := #[], guard := none }) (v := .slice (some ⟨pk, 0, none⟩) 2 2) rfl (by kernel_rfl) (by kernel_rfl) (by kernel_rfl) (fun _ _ _ h => h) (Or.inl ⟨by rfl, fun w0 hSw => by (go_simp)⟩) hH ?_
    simp only [Act.put, List.setIfInBounds_toArray, List.set_cons_zero, List.set_cons_succ]
    refine wpAnyH_take (i := 4) (oi := { dst := some 62, op := Op.indexAddr 73 (Operand.tmp 61) (Operand.const (Value.int IntKind.i64 0)), type := 0, pos := "l16_texture.go:212", after := #[{ on := 3, ground := Ground.data }], guard := none }) (v := .pointer (some ⟨pk, 0, none⟩)) rfl (by kernel_rfl) (by kernel_rfl) (by kernel_rfl) (fun _ _ _ h => h) (Or.inl ⟨by rfl, fun w0 hSw => by (go_simp)⟩) hH ?_
    simp only [Act.put, List.setIfInBounds_toArray, List.set_cons_zero, List.set_cons_succ]
    refine wpAnyH_take (i := 5) (oi := { dst := some 63, op := Op.load 3 (Operand.tmp 62), type := 3, pos := "l16_texture.go:212", after := #[{ on := 4, ground := Ground.data }], guard := none }) (v := .int .i64 xk) rfl (by kernel_rfl) (by kernel_rfl) (by kernel_rfl) (fun _ _ _ h => h) (Or.inl ⟨by rfl, fun w0 hSw => by ((have e0 := hSw.2.2.1); go_simp)⟩) hH ?_
    simp only [Act.put, List.setIfInBounds_toArray, List.set_cons_zero, List.set_cons_succ]
    refine wpAnyH_take (i := 6) (oi := { dst := some 64, op := Op.move (Operand.tmp 19), type := 73, pos := "l16_texture.go:212", after := #[], guard := none }) (v := .slice (some ⟨pk, 0, none⟩) 2 2) rfl (by kernel_rfl) (by kernel_rfl) (by kernel_rfl) (fun _ _ _ h => h) (Or.inl ⟨by rfl, fun w0 hSw => by (go_simp)⟩) hH ?_
    simp only [Act.put, List.setIfInBounds_toArray, List.set_cons_zero, List.set_cons_succ]
    refine wpAnyH_take (i := 7) (oi := { dst := some 65, op := Op.indexAddr 73 (Operand.tmp 64) (Operand.const (Value.int IntKind.i64 1)), type := 0, pos := "l16_texture.go:212", after := #[{ on := 6, ground := Ground.data }], guard := none }) (v := .pointer (some ⟨pk, 1, none⟩)) rfl (by kernel_rfl) (by kernel_rfl) (by kernel_rfl) (fun _ _ _ h => h) (Or.inl ⟨by rfl, fun w0 hSw => by (go_simp)⟩) hH ?_
    simp only [Act.put, List.setIfInBounds_toArray, List.set_cons_zero, List.set_cons_succ]
    refine wpAnyH_take (i := 8) (oi := { dst := some 66, op := Op.load 3 (Operand.tmp 65), type := 3, pos := "l16_texture.go:212", after := #[{ on := 7, ground := Ground.data }], guard := none }) (v := .int .i64 zk) rfl (by kernel_rfl) (by kernel_rfl) (by kernel_rfl) (fun _ _ _ h => h) (Or.inl ⟨by rfl, fun w0 hSw => by ((have e0 := hSw.2.2.2); go_simp)⟩) hH ?_
    simp only [Act.put, List.setIfInBounds_toArray, List.set_cons_zero, List.set_cons_succ]
    refine wpAnyH_take (i := 9) (oi := { dst := some 67, op := Op.move (Operand.tmp 4), type := 3, pos := "l16_texture.go:212", after := #[], guard := none }) (v := .int .i64 e) rfl (by kernel_rfl) (by kernel_rfl) (by kernel_rfl) (fun _ _ _ h => h) (Or.inl ⟨by rfl, fun w0 hSw => by (go_simp)⟩) hH ?_
    simp only [Act.put, List.setIfInBounds_toArray, List.set_cons_zero, List.set_cons_succ]
    refine wpAnyH_take (i := 10) (oi := { dst := some 68, op := Op.load 25 (Operand.tmp 11), type := 25, pos := "l16_texture.go:212", after := #[], guard := none }) (v := .agg #[.int .i64 c.r, .int .i64 c.g, .int .i64 c.b, .int .i64 c.a]) rfl (by kernel_rfl) (by kernel_rfl) (by kernel_rfl) (fun _ _ _ h => h) (Or.inl ⟨by rfl, fun w0 hSw => by ((have e0 := hSw.2.1.c0); (have e1 := hSw.2.1.c1); (have e2 := hSw.2.1.c2); (have e3 := hSw.2.1.c3); go_simp)⟩) hH ?_
    simp only [Act.put, List.setIfInBounds_toArray, List.set_cons_zero, List.set_cons_succ]
    refine wpAnyH_ready (rs := [11]) (by kernel_rfl) (by simp) ?_
    refine (AllReadyH.cons (o := { dst := some 69, op := Op.call { callee := Callee.value (Operand.func 62), args := #[Operand.tmp 59, Operand.tmp 60, Operand.tmp 63, Operand.tmp 66, Operand.tmp 67, Operand.tmp 68], argTypes := #[43, 3, 3, 3, 3, 25] }, type := 25, pos := "l16_texture.go:212", after := #[{ on := 1, ground := Ground.data }, { on := 2, ground := Ground.data }, { on := 5, ground := Ground.data }, { on := 8, ground := Ground.data }, { on := 9, ground := Ground.data }, { on := 10, ground := Ground.data }], guard := none }) rfl (fun K hK => ?_) AllReadyH.nil)
    refine step_callC 62 #[.agg #[.int .i64 s, .int .i64 y, .int .i64 l, .slice ad n cp], .int .i64 (lk : Int), .int .i64 xk, .int .i64 zk, .int .i64 e, .agg #[.int .i64 c.r, .int .i64 c.g, .int .i64 c.b, .int .i64 c.a]] (fun z v w' => z = .agg #[.int .i64 q.r, .int .i64 q.g, .int .i64 q.b, .int .i64 q.a] ∧ Below v.heap.size v w') (by rfl) (by go_simp) ((HFK.out _ BX).mono fun e w' ⟨h1, h2⟩ => ⟨_, h1, rfl, h2⟩) ?_
    rintro z5 w5 ⟨rfl, B5⟩
    have R5 := RX.next B5
    have B05 := B0X.trans (B5.mono B0X.size)
    simp only [Act.put, List.setIfInBounds_toArray, List.set_cons_zero, List.set_cons_succ]
    refine hK.out _ _ ⟨hH.1.next B5, hH.2.1.next B5, cell_nx hH.2.2.1 B5, cell_nx hH.2.2.2 B5⟩ (fun hH' => ?_)
    clear hK K
    replace hH := hH'
    clear hH' 
    refine wpAnyH_ready (rs := [12]) (by kernel_rfl) (by simp) ?_
    refine (AllReadyH.cons (o := { dst := some 70, op := Op.buildSlice 51 1 #[(0, Operand.tmp 69)], type := 51, pos := "l16_texture.go:212", after := #[{ on := 11, ground := Ground.data }], guard := none }) rfl (fun K hK => ?_) AllReadyH.nil)
    refine step_val (.slice (some ⟨w5.heap.size, 0, none⟩) 1 1) (w5.alloc (.cells #[.int .i64 q.r, .int .i64 q.g, .int .i64 q.b, .int .i64 q.a] 25)) (by rfl) (by go_simp) ?_
    simp only [Act.put, List.setIfInBounds_toArray, List.set_cons_zero, List.set_cons_succ]
    refine hK.out _ _ ⟨hH.1.next alloc_b, hH.2.1.next alloc_b, cell_nx hH.2.2.1 alloc_b, cell_nx hH.2.2.2 alloc_b⟩ (fun hH' => ?_)
    clear hK K
    replace hH := hH'
    clear hH' 
    refine wpAnyH_ready (rs := [13]) (by kernel_rfl) (by simp) ?_
    refine (AllReadyH.cons (o := { dst := some 71, op := Op.call { callee := Callee.builtin Builtin.append, args := #[Operand.tmp 58, Operand.tmp 70], argTypes := #[51, 51] }, type := 51, pos := "l16_texture.go:212", after := #[{ on := 0, ground := Ground.data }, { on := 12, ground := Ground.data }, { on := 11, ground := Ground.chain }], guard := none }) rfl (fun K hK => ?_) AllReadyH.nil)
    obtain ⟨g6, cap6, w6, hr6, R6, G6⟩ := run_append_col (ty := 51) (c := 1) (R5.alloc (.cells #[.int .i64 q.r, .int .i64 q.g, .int .i64 q.b, .int .i64 q.a] 25)) (C4.new w5 25 (.int .i64 q.r) (.int .i64 q.g) (.int .i64 q.b) (.int .i64 q.a)) (by omega)
    refine step_app (.tmp 58) (.tmp 70) 51 _ _ (.slice (some ⟨g6, 0, none⟩) (L.length + 1) cap6) w6 (by rfl) (by rfl) (by rfl) (by rfl) hr6 ?_
    simp only [Act.put, List.setIfInBounds_toArray, List.set_cons_zero, List.set_cons_succ]
    have hne : ∀ x, x < B0 → some x ≠ v5.ownBlock := fun x hx e => by have := (RX.lt x e.symm).1; omega
    refine hK.out _ _ ⟨hH.1.block (G6.block _ hH.1.hi (hne _ htb)) G6.size, hH.2.1.block (G6.block _ hH.2.1.hi (hne _ hkb)) G6.size, (World.cell?_of_block (G6.block _ (World.block_lt_of_cell? _ _ hH.2.2.1) (hne _ hpk))).trans hH.2.2.1, (World.cell?_of_block (G6.block _ (World.block_lt_of_cell? _ _ hH.2.2.2) (hne _ hpk))).trans hH.2.2.2⟩ (fun hH' => ?_)
    clear hK K
    replace hH := hH'
    clear hH' 
    refine wpAnyH_take (i := 14) (oi := { dst := some 17, op := Op.assign (Operand.tmp 71), type := 51, pos := "l16_texture.go:212", after := #[{ on := 13, ground := Ground.data }, { on := 13, ground := Ground.chain }, { on := 0, ground := Ground.phase }, { on := 1, ground := Ground.phase }, { on := 2, ground := Ground.phase }, { on := 3, ground := Ground.phase }, { on := 4, ground := Ground.phase }, { on := 5, ground := Ground.phase }, { on := 6, ground := Ground.phase }, { on := 7, ground := Ground.phase }, { on := 8, ground := Ground.phase }, { on := 9, ground := Ground.phase }, { on := 10, ground := Ground.phase }, { on := 11, ground := Ground.phase }, { on := 12, ground := Ground.phase }, { on := 13, ground := Ground.phase }], guard := none }) (v := .slice (some ⟨g6, 0, none⟩) (L.length + 1) cap6) rfl (by kernel_rfl) (by kernel_rfl) (by kernel_rfl) (fun _ _ _ h => h) (Or.inl ⟨by rfl, fun w0 hSw => by (go_simp)⟩) hH ?_
    simp only [Act.put, List.setIfInBounds_toArray, List.set_cons_zero, List.set_cons_succ]
    refine wpAnyH_done (by kernel_rfl) ?_ _
    have B6 : Below W6.heap.size W6 w6 := below_grown (B05.alloc B05.size (.cells #[.int .i64 q.r, .int .i64 q.g, .int .i64 q.b, .int .i64 q.a] 25)) (Nat.le_trans B05.size (alloc_b (v := w5) (o := .cells #[.int .i64 q.r, .int .i64 q.g, .int .i64 q.b, .int .i64 q.a] 25)).size) G6 (fun g hg => by have := (RX.lt g hg).1; have := HB0.out; omega)
    have HRN : Hid (KR B0 w6 (.slice (some ⟨g6, 0, none⟩) (L.length + 1) cap6) (cL C (k + 1))) := by show KR _ _ _ _; rw [HLK.out]; exact R6
    clear R6 R5 G6 B05 RX B0X BX hr6
    go_wp2
    go_roundw
    case rel => exact ⟨k + 1, _, by omega, rfl, by go_num, HRN, B6⟩
    case measure => simp [intOf]; omega
end Go.Proofs.Ythkngcdfnemhaaa
