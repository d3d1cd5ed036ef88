/- Rows of commands that a call appends to; all commands of a list are good: areCommands of the program. -/
import Derived.Test.YtnbpncjbfnhkjaaVj
import Derived.Laws.AppendOwn
import Derived.Maps.AppendAt
namespace Go.Proofs.Ytnbpncjbfnhkjaa
open Go.ChangeShapes Go.WideShapes Go.ChangeAt Go.RowKit
set_option linter.unusedVariables false
/-- A row of commands of one's own, from block B on. -/
def CR (B : Nat) (w : World) (v : Value) (L : List TupC) : Prop := w.ownsRow B 35 5 v L.length (cellsC L) ∧ B ≤ w.heap.size
theorem CR.nil (B : Nat) (w : World) (h : B ≤ w.heap.size) : CR B w (.slice none 0 0) [] := ⟨World.ownsRow_nil _ _ _ _, h⟩
theorem CR.lt {B : Nat} {w : World} {v : Value} {L : List TupC} (h : CR B w v L) : ∀ g, v.ownBlock = some g → B ≤ g ∧ g < w.heap.size := fun g hg => h.1.lt g hg
theorem CR.alloc {B : Nat} {w : World} {v : Value} {L : List TupC} (h : CR B w v L) (o : Obj) : CR B (w.alloc o) v L := ⟨h.1.alloc o, by have := h.2; simp; omega⟩
theorem CR.next {B : Nat} {w w' : World} {v : Value} {L : List TupC} (h : CR B w v L) (b : Below w.heap.size w w') : CR B w' v L := ⟨h.1.kept (grown_below b none) (by cases hv : v.ownBlock <;> simp), Nat.le_trans h.2 b.size⟩
theorem CR.low {B C : Nat} {w : World} {v : Value} {L : List TupC} (h : CR B w v L) (hc : C ≤ B) : CR C w v L := by
  refine ⟨⟨h.1.1, ?_⟩, Nat.le_trans hc h.2⟩
  rcases h.1.2 with h0 | ⟨g, cap, cur, h1, h2, h3⟩
  · exact Or.inl h0
  · exact Or.inr ⟨g, cap, cur, h1, Nat.le_trans hc h2, h3⟩
theorem CR.far {B : Nat} {w w' : World} {v : Value} {L : List TupC} {o : Nat} (h : CR B w v L) (k : Only o w w') (ho : o < B) : CR B w' v L :=
  ⟨h.1.kept (row := some o) ⟨k.os, k.tape, k.output, k.size, fun i hi hne => k.block i hi (fun e => hne (by rw [e]))⟩ (Or.inr (fun e => by have := (h.1.lt o e).1; omega)), Nat.le_trans h.2 k.size⟩
theorem C5.grown {w w' : World} {b : Nat} {v0 v1 v2 v3 v4 : Value} {row : Option Nat} (h : C5 w b v0 v1 v2 v3 v4) (k : w.grownBy w' row) (hne : some b ≠ row) : C5 w' b v0 v1 v2 v3 v4 := h.block (k.block b h.hi hne) k.size
theorem CR.rowv {B : Nat} {w : World} {v : Value} {L : List TupC} (h : CR B w v L) : RowCV w v L.length (atC0 L) (atC1 L) (atC2 L) (atC3 L) (atC4 L) := rowvC_of h.1
theorem CR.form {B : Nat} {w : World} {v : Value} {L : List TupC} (h : CR B w v L) : (L = [] ∧ v = .slice none 0 0) ∨ ∃ g c, v = .slice (some ⟨g, 0, none⟩) L.length c := by
  rcases h.1.2 with ⟨h1, h2⟩ | ⟨g, cap, cur, h1, _⟩
  · exact Or.inl ⟨List.length_eq_zero_iff.1 h2, h1⟩
  · exact Or.inr ⟨g, cap, h1⟩
theorem infoCm : (Try.prog.info? 35).map (fun i => (i.zero, i.size, i.bytes)) = some (some (.agg #[.int .i64 0, .int .i64 0, .int .i64 0, .int .i64 0, .int .i64 0]), 5, 40) := by kernel_rfl
theorem run_append_cmd {w : World} {ty : TypeId} {B p c : Nat} {v : Value} {L : List TupC} {y0 y1 y2 y3 y4 : Int} (R : CR B w v L) (Y : C5 w p (.int .i64 y0) (.int .i64 y1) (.int .i64 y2) (.int .i64 y3) (.int .i64 y4)) (hl : L.length < 1000000) :
    ∃ g cap w', (Builtin.append_ #[23, 23] ty #[v, .slice (some ⟨p, 0, none⟩) 1 c]).run Try.prog w = .ok (.slice (some ⟨g, 0, none⟩) (L.length + 1) cap) w' ∧ CR B w' (.slice (some ⟨g, 0, none⟩) (L.length + 1) cap) (L ++ [(y0, y1, y2, y3, y4)]) ∧ w.grownBy w' v.ownBlock := by
  obtain ⟨i0, hi, hz0, hz1, hz2⟩ := info_parts infoCm
  obtain ⟨v', w', h1, h2, h3, -, -⟩ := run_append_own_at (P := Try.prog) w B 23 ty 35 i0 (.agg #[.int .i64 0, .int .i64 0, .int .i64 0, .int .i64 0, .int .i64 0]) 5 40 Try.underlying23 hi hz0 hz1 hz2 rfl (by decide) v L.length (cellsC L) R.1 ⟨p, 0, none⟩ 1 c [.int .i64 y0, .int .i64 y1, .int .i64 y2, .int .i64 y3, .int .i64 y4] rfl
    (by
      intro j u hj
      match j, hj with
      | 0, hj => simp at hj; subst hj; simpa [Addr.add] using Y.c0
      | 1, hj => simp at hj; subst hj; simpa [Addr.add] using Y.c1
      | 2, hj => simp at hj; subst hj; simpa [Addr.add] using Y.c2
      | 3, hj => simp at hj; subst hj; simpa [Addr.add] using Y.c3
      | 4, hj => simp at hj; subst hj; simpa [Addr.add] using Y.c4)
    (by intro u hu; simp at hu; rcases hu with rfl | rfl | rfl | rfl | rfl <;> rfl) (by unfold maxLen; omega) (by omega) R.2
  obtain ⟨g, cap, rfl⟩ : ∃ g cap, v' = .slice (some ⟨g, 0, none⟩) (L.length + 1) cap := by
    rcases h2.2 with ⟨_, h0⟩ | ⟨g, cap, cur, h0, _⟩
    · omega
    · exact ⟨g, cap, h0⟩
  refine ⟨g, cap, w', h1, ⟨?_, Nat.le_trans R.2 h3.size⟩, h3⟩
  rw [List.length_append, cellsC_app]
  exact h2
theorem wpList_append_cmd {ops : Array Oper} {rest : List Oper} {o : Oper} {a : Act} {Q : Exit → Act → World → Prop} {w : World} (hgd : o.guard = none) (s x : Operand) (ho : o.op = .call { callee := .builtin .append, args := #[s, x], argTypes := #[23, 23] })
    {B p c : Nat} {v : Value} {L : List TupC} {y0 y1 y2 y3 y4 : Int} (hs : a.eval s = v) (hx : a.eval x = .slice (some ⟨p, 0, none⟩) 1 c) (R : CR B w v L) (Y : C5 w p (.int .i64 y0) (.int .i64 y1) (.int .i64 y2) (.int .i64 y3) (.int .i64 y4)) (hl : L.length < 1000000)
    (h : ∀ g cap w', CR B w' (.slice (some ⟨g, 0, none⟩) (L.length + 1) cap) (L ++ [(y0, y1, y2, y3, y4)]) → w.grownBy w' v.ownBlock → wpList Try.prog ops Q rest (a.put o.dst (.slice (some ⟨g, 0, none⟩) (L.length + 1) cap)) w') : wpList Try.prog ops Q (o :: rest) a w := by
  obtain ⟨g, cap, w', h1, h2, h3⟩ := run_append_cmd (ty := o.type) (c := c) R Y hl
  refine wpList_plain hgd fun K hK => ?_
  unfold Oper.wp execOp
  simp only [ho, resolve, invoke, builtin, Sem.run_bind, Sem.run_pure, Result.andThen_ok, List.map_toArray, List.map_cons, List.map_nil, hs, hx, h1]
  exact hK _ _ (h g cap w' h2 h3)
/-- All of the first n are good. -/
def agB (K T F O M : Nat → Int) : Nat → Bool
  | 0 => true
  | n + 1 => agB K T F O M n && gcB (K n) (T n) (F n) (O n) (M n)
theorem ag_iff {K T F O M : Nat → Int} : ∀ {n : Nat}, agB K T F O M n = true ↔ ∀ i, i < n → gcB (K i) (T i) (F i) (O i) (M i) = true
  | 0 => ⟨fun _ i hi => absurd hi (Nat.not_lt_zero _), fun _ => rfl⟩
  | n + 1 => by
    rw [agB, Bool.and_eq_true, ag_iff (n := n)]
    exact ⟨fun ⟨a, b⟩ i hi => if e : i = n then e ▸ b else a i (by omega), fun a => ⟨fun i hi => a i (by omega), a n (by omega)⟩⟩
/-- States of things in a list that gets its turns. -/
def ltS (K T : Nat → Int) : Nat → Nat → Int
  | 0 => fun _ => 0
  | i + 1 => if tfB (K i) (ltS K T i (T i).toNat) = true then upd (ltS K T i) (T i).toNat (K i) else ltS K T i
/-- A list with its turns. -/
def ltL (K T F O M : Nat → Int) : Nat → List TupC
  | 0 => []
  | i + 1 => ltL K T F O M i ++ (if K i = 4 then [] else (if tfB (K i) (ltS K T i (T i).toNat) = true then [(4, T i, ltS K T i (T i).toNat, K i, 0)] else []) ++ [(K i, T i, F i, O i, M i)])
theorem ltL_len (K T F O M : Nat → Int) : ∀ n, (ltL K T F O M n).length ≤ 2 * n
  | 0 => Nat.le_refl _
  | n + 1 => by
    have h := ltL_len K T F O M n
    rw [ltL, List.length_append]
    split
    · simp; omega
    · split <;> simp <;> omega
/-- Whether a list gets its turns. -/
def ltB (K T F O M : Nat → Int) (n : Nat) : Bool := decide (n ≤ 60) && (agB K T F O M n && decide ((ltL K T F O M n).length ≤ 60))
def ltR (K T F O M : Nat → Int) (n : Nat) : List TupC := if ltB K T F O M n = true then ltL K T F O M n else []
set_option maxRecDepth 100000 in
set_option maxHeartbeats 2000000 in
theorem pclos (k t f o m : Int) (w : World) : Calls Try.prog 49 #[.agg #[.int .i64 k, .int .i64 t, .int .i64 f, .int .i64 o, .int .i64 m]] w fun e w' => e = .returned (.bool (!gcB k t f o m)) ∧ Below w.heap.size w w' := by
  have HG : Hid (∀ v, Calls Try.prog 16 #[.agg #[.int .i64 k, .int .i64 t, .int .i64 f, .int .i64 o, .int .i64 m]] v fun e w'' => e = .returned (.bool (gcB k t f o m)) ∧ Below v.heap.size v w'') := fun v => pgc k t f o m v
  generalize gcB k t f o m = g at HG ⊢
  cases g
  all_goals
    go_enter Try.func49, Try.ntmps49
    go_wp2_with (first | (go_at_call 16; refine (HG.out _).mono ?_; rintro e w2 ⟨rfl, B2⟩))
    go_ret
    exact ⟨rfl, alloc_b.trans (B2.mono (by simp))⟩
set_option maxRecDepth 100000 in
set_option maxHeartbeats 4000000 in
theorem pindex (ad : Option Addr) (n c : Nat) (K T F O M : Nat → Int) (w : World) (A : ArgC w ad n K T F O M) (hn : n ≤ 9223372036854775807) : Calls Try.prog 59 #[.slice ad n c, .func (.func 49) #[] #[]] w fun e w' => (∃ x : Int, e = .returned (.int .i64 x) ∧ (0 ≤ x ↔ agB K T F O M n = false)) ∧ Below w.heap.size w w' := by
  have HX := A.hid
  have HAG : Hid (agB K T F O M n = true ↔ ∀ i, i < n → gcB (K i) (T i) (F i) (O i) (M i) = true) := ag_iff
  generalize agB K T F O M n = ag at HAG ⊢
  clear A
  go_enter Try.func59, Try.ntmps59
  go_wp2
  go_loopw [8] (fun i wr => ∃ k : Nat, k ≤ n ∧ i = .int .i64 k ∧ Hid (∀ j, j < k → gcB (K j) (T j) (F j) (O j) (M j) = true) ∧ Below w.heap.size w wr) (fun i _ => n - (intOf i).toNat)
  case atStart => exact ⟨0, Nat.zero_le _, rfl, fun j hj => absurd hj (Nat.not_lt_zero _), Below.refl _ _⟩
  case round =>
    obtain ⟨k, hk, rfl, HR, B⟩ := hrel
    by_cases hkn : k < n
    case neg =>
      obtain rfl : n = k := by omega
      have i1 : ¬ ((n : Nat) : Int) < (n : Int) := by omega
      obtain rfl : ag = true := HAG.out.2 HR.out
      clear HAG HR HX
      go_wp2
      go_ret
      exact ⟨⟨-1, rfl, by decide⟩, B⟩
    obtain ⟨g, off, rfl, hg, d0, d1, d2, d3, d4⟩ := HX.out k hkn
    replace d0 := (B.cell (p := ⟨g, off + k * 5, none⟩) hg).trans d0
    replace d1 := (B.cell (p := ⟨g, off + k * 5 + 1, none⟩) hg).trans d1
    replace d2 := (B.cell (p := ⟨g, off + k * 5 + 2, none⟩) hg).trans d2
    replace d3 := (B.cell (p := ⟨g, off + k * 5 + 3, none⟩) hg).trans d3
    replace d4 := (B.cell (p := ⟨g, off + k * 5 + 4, none⟩) hg).trans d4
    have i1 : (k : Int) < (n : Int) := by omega
    have i0 : (0 : Int) ≤ (k : Int) := by omega
    have HC : Hid (∀ v, Calls Try.prog 49 #[.agg #[.int .i64 (K k), .int .i64 (T k), .int .i64 (F k), .int .i64 (O k), .int .i64 (M k)]] v fun e w' => e = .returned (.bool (!gcB (K k) (T k) (F k) (O k) (M k))) ∧ Below v.heap.size v w') := fun v => pclos _ _ _ _ _ v
    have HN1 : Hid (gcB (K k) (T k) (F k) (O k) (M k) = true → ∀ j, j < k + 1 → gcB (K j) (T j) (F j) (O j) (M j) = true) := fun h j hj => if e : j = k then e ▸ h else HR.out j (by omega)
    have HB1 : Hid (gcB (K k) (T k) (F k) (O k) (M k) = false → ag = false) := fun h => by
      cases ag
      · rfl
      · rw [HAG.out.1 rfl k hkn] at h; exact absurd h (by decide)
    generalize gcB (K k) (T k) (F k) (O k) (M k) = gb at HC HN1 HB1
    generalize K k = xk at HC d0
    generalize T k = xt at HC d1
    generalize F k = xf at HC d2
    generalize O k = xo at HC d3
    generalize M k = xm at HC d4
    cases gb
    · obtain rfl : ag = false := HB1.out rfl
      clear HAG HR HX HN1 HB1
      go_wp2_with (first | (go_at_call 49; refine (HC.out _).mono ?_; rintro e w2 ⟨rfl, B2⟩))
      go_ret
      refine ⟨?_, B.trans (B2.mono B.size)⟩
      first | exact ⟨_, rfl, ⟨fun _ => rfl, fun _ => i0⟩⟩ | exact ⟨_, rfl, i0⟩ | simp
    · have HN2 := Hid.mk (HN1.out rfl)
      clear HR HX HN1 HB1
      go_wp2_with (first | (go_at_call 49; refine (HC.out _).mono ?_; rintro e w2 ⟨rfl, B2⟩))
      go_roundw
      case rel => exact ⟨k + 1, by omega, by go_num, HN2, B.trans (B2.mono B.size)⟩
      case measure => simp [intOf]; omega
set_option maxRecDepth 100000 in
set_option maxHeartbeats 2000000 in
theorem pcontains (ad : Option Addr) (n c : Nat) (K T F O M : Nat → Int) (w : World) (A : ArgC w ad n K T F O M) (hn : n ≤ 9223372036854775807) : Calls Try.prog 48 #[.slice ad n c, .func (.func 49) #[] #[]] w fun e w' => e = .returned (.bool (!agB K T F O M n)) ∧ Below w.heap.size w w' := by
  have HI := Hid.mk (pindex ad n c K T F O M w A hn)
  generalize agB K T F O M n = ag at HI ⊢
  clear A
  go_enter Try.func48, Try.ntmps48
  go_wp2_with (first | (go_at_call 59; refine HI.out.mono ?_; rintro e w2 ⟨⟨x, rfl, hx⟩, B2⟩))
  go_ret
  refine ⟨?_, B2⟩
  cases ag
  · first | rfl | (have h := hx.2 rfl; simp; done) | (have h := hx.2 rfl; simp; omega)
  · first | rfl | (have h : ¬ 0 ≤ x := (fun h => absurd (hx.1 h) (by decide)); simp; done) | (have h : ¬ 0 ≤ x := (fun h => absurd (hx.1 h) (by decide)); simp; omega)
set_option maxRecDepth 100000 in
set_option maxHeartbeats 2000000 in
theorem pare (ad : Option Addr) (n c : Nat) (K T F O M : Nat → Int) (w : World) (A : ArgC w ad n K T F O M) (hn : n ≤ 9223372036854775807) : Calls Try.prog 31 #[.slice ad n c] w fun e w' => e = .returned (.bool (decide (n ≤ 60) && agB K T F O M n)) ∧ Below w.heap.size w w' := by
  have HI := Hid.mk (pcontains ad n c K T F O M w A hn)
  generalize agB K T F O M n = ag at HI ⊢
  clear A
  by_cases h : n ≤ 60
  · have h1 : (n : Int) ≤ 60 := by omega
    rw [decide_eq_true h, Bool.true_and]
    cases ag
    all_goals
      go_enter Try.func31, Try.ntmps31
      go_wp2_with (first | (go_at_call 48; refine HI.out.mono ?_; rintro e w2 ⟨rfl, B2⟩))
      go_ret
      exact ⟨rfl, B2⟩
  · have h1 : ¬ (n : Int) ≤ 60 := by omega
    rw [decide_eq_false h, Bool.false_and]
    clear HI
    go_enter Try.func31, Try.ntmps31
    go_wp2
    go_ret
    exact ⟨rfl, Below.refl _ _⟩
end Go.Proofs.Ytnbpncjbfnhkjaa
