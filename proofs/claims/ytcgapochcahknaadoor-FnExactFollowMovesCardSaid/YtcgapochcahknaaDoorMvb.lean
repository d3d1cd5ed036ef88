/- Where blocks begin: What FollowMoves makes of code: told without a program. The program's begins: where blocks begin; registers that are no copies; what a written register forgets. The program's begins, noCopies, forget and followed. The program's followed: an instruction that reads no copies, and of what each register is a copy behind it. -/
import Derived.Test.YtcgapochcahknaaDoorUnm
import Derived.Test.YtcgapochcahknaaDoorBgm
import Derived.Test.YtcgapochcahknaaDoorUni
import Derived.Deep.QuietTactic
import Derived.BigQuiet
namespace Go.Proofs.YtcgapochcahknaaDoor
open Go.ChangeShapes Go.WideShapes Go.ChangeAt Go.RowKit
set_option linter.unusedVariables false
/-- How many registers an instruction reads. -/
def kN (o x : Int) : Nat := (opsL o 0 0 0 x).length
theorem kN_le (o x : Int) : kN o x ≤ 3 := opsL_len o 0 0 0 x
theorem take3 (a b c a' b' c' : Int) (n : Nat) : ([a, b, c].take n).length = ([a', b', c'].take n).length := by simp
theorem take3m (a b c : Int) (n : Nat) : [a, b, c].take n = [a, b, c].take ([0, 0, (0 : Int)].take n).length := by
  rcases (by omega : n = 0 ∨ n = 1 ∨ n = 2 ∨ n = 3 ∨ 3 < n) with rfl | rfl | rfl | rfl | h
  · rfl
  · rfl
  · rfl
  · rfl
  · rw [List.take_of_length_le (by simp; omega), List.take_of_length_le (by simp; omega)]
theorem opsL_take (o a b c x : Int) : opsL o a b c x = [a, b, c].take (kN o x) := by
  unfold kN opsL
  repeat' split
  · rfl
  · rfl
  · exact take3m a b c _
  · rfl
theorem opsL_kN (o a b c x : Int) : (opsL o a b c x).length = kN o x := by
  rw [opsL_take]
  have := kN_le o x
  simp
  omega
/-- What the i-th read becomes. -/
def mvV (F : Nat → Int) (k i : Nat) (v : Int) : Int := if i < k then F v.toNat else v
/-- Of what each register is a copy, behind an instruction. -/
def mvS (F : Nat → Int) (o d a : Int) (r : Nat) : Int := if nmd o 0 then (if r = d.toNat then (if o = 2 then a else d) else if F r = d then (r : Int) else F r) else F r
def Cd.fr (c : Cd) (bg : Nat → Bool) : Nat → Nat → Int
  | 0 => fun _ => 0
  | k + 1 => mvS (if bg k then (fun r => (r : Int)) else c.fr bg k) (c.O k) (c.D k) (mvV (if bg k then (fun r => (r : Int)) else c.fr bg k) (kN (c.O k) (c.X k)) 0 (c.A k))
/-- .. right ahead of an instruction. -/
def Cd.fb (c : Cd) (bg : Nat → Bool) (k : Nat) : Nat → Int := if bg k then (fun r => (r : Int)) else c.fr bg k
theorem Cd.fr_succ (c : Cd) (bg : Nat → Bool) (k : Nat) : c.fr bg (k + 1) = mvS (c.fb bg k) (c.O k) (c.D k) (mvV (c.fb bg k) (kN (c.O k) (c.X k)) 0 (c.A k)) := rfl
/-- Where blocks begin. -/
def Cd.bg (c : Cd) : Nat → Bool := bgF c.O c.A c.B c.C c.n
/-- The code behind FollowMoves. -/
def Cd.mv (c : Cd) : Cd := ⟨c.O, c.D, fun k => mvV (c.fb c.bg k) (kN (c.O k) (c.X k)) 0 (c.A k), fun k => mvV (c.fb c.bg k) (kN (c.O k) (c.X k)) 1 (c.B k), fun k => mvV (c.fb c.bg k) (kN (c.O k) (c.X k)) 2 (c.C k), c.X, c.n⟩
/-- The numbers that the first k tell; the places behind those of the first k that end a block. -/
def Cd.gl (c : Cd) : Nat → List Int
  | 0 => []
  | k + 1 => c.gl k ++ tgL (c.O k) (c.A k) (c.B k) (c.C k)
def Cd.br (c : Cd) : Nat → List Int
  | 0 => []
  | k + 1 => c.br k ++ (if cutO (c.O k) then [((k + 1 : Nat) : Int)] else [])
theorem Cd.gl_len (c : Cd) : ∀ k, (c.gl k).length ≤ 2 * k
  | 0 => by simp [Cd.gl]
  | k + 1 => by
    have := c.gl_len k
    have := tg_len (c.O k) (c.A k) (c.B k) (c.C k)
    rw [Cd.gl, List.length_append]
    omega
theorem Cd.br_len (c : Cd) : ∀ k, (c.br k).length ≤ k
  | 0 => by simp [Cd.br]
  | k + 1 => by
    have := c.br_len k
    rw [Cd.br, List.length_append]
    split <;> simp <;> omega
theorem Cd.gl_mem (c : Cd) (t : Int) : ∀ k, t ∈ c.gl k → ∃ i, i < k ∧ t ∈ tgL (c.O i) (c.A i) (c.B i) (c.C i)
  | 0, h => by cases h
  | k + 1, h => by
    rw [Cd.gl] at h
    rcases List.mem_append.1 h with h | h
    · obtain ⟨i, hi, e⟩ := c.gl_mem t k h
      exact ⟨i, by omega, e⟩
    · exact ⟨k, by omega, h⟩
theorem Cd.br_mem (c : Cd) (t : Int) : ∀ k, t ∈ c.br k → 1 ≤ t ∧ t ≤ k
  | 0, h => by cases h
  | k + 1, h => by
    rw [Cd.br] at h
    rcases List.mem_append.1 h with h | h
    · have := c.br_mem t k h; omega
    · split at h
      · have : t = ((k + 1 : Nat) : Int) := by simpa using h
        omega
      · cases h
theorem inL_mem (x : Nat) : ∀ l, inL x l = memB l x
  | [] => rfl
  | t :: r => by
    rw [inL, inL_mem x r]
    unfold memB
    rw [← Bool.decide_or]
    congr 1
    apply propext
    rw [List.mem_cons]
    constructor
    · rintro (h | h)
      · exact Or.inl h.symm
      · exact Or.inr h
    · rintro (h | h)
      · exact Or.inl h.symm
      · exact Or.inr h
theorem memB_or (a b : List Int) (x : Nat) : memB (a ++ b) x = (memB a x || memB b x) := by
  unfold memB
  rw [← Bool.decide_or]
  congr 1
  exact propext List.mem_append
theorem bgF_is (c : Cd) (x : Nat) : ∀ k, bgF c.O c.A c.B c.C k x = (decide (x = 0) || memB (c.gl k) x || memB (c.br k) x)
  | 0 => by simp [bgF, Cd.gl, Cd.br, memB]
  | k + 1 => by
    rw [bgF, bgF_is c x k, Cd.gl, Cd.br, memB_or, memB_or, inL_mem]
    have e : memB (if cutO (c.O k) then [((k + 1 : Nat) : Int)] else []) x = (cutO (c.O k) && decide (x = k + 1)) := by
      unfold memB
      cases cutO (c.O k)
      · simp
      · simp only [if_true, Bool.true_and, List.mem_singleton]
        congr 1
        apply propext
        omega
    rw [e]
    generalize memB (tgL (c.O k) (c.A k) (c.B k) (c.C k)) x = p
    generalize memB (c.gl k) x = q
    generalize memB (c.br k) x = r
    generalize (cutO (c.O k) && decide (x = k + 1)) = s
    generalize decide (x = 0) = z
    cases p <;> cases q <;> cases r <;> cases s <;> cases z <;> rfl
/-- What the program joins is where blocks begin. -/
theorem bg_set (c : Cd) (x : Nat) (hx : x < c.n) : memB [[0], c.gl c.n, c.br (c.n - 1)].flatten x = c.bg x := by
  have e : [[0], c.gl c.n, c.br (c.n - 1)].flatten = [0] ++ c.gl c.n ++ c.br (c.n - 1) := by simp
  unfold Cd.bg
  rw [e, memB_or, memB_or, bgF_is]
  have e0 : memB [0] x = decide (x = 0) := by
    unfold memB
    congr 1
    apply propext
    rw [List.mem_singleton]
    omega
  rw [e0]
  congr 1
  have hn : c.n = (c.n - 1) + 1 := by omega
  rw [show c.br c.n = c.br ((c.n - 1) + 1) by rw [← hn], Cd.br, memB_or]
  have : memB (if cutO (c.O (c.n - 1)) then [((c.n - 1 + 1 : Nat) : Int)] else []) x = false := by
    unfold memB
    apply decide_eq_false
    split
    · rw [List.mem_singleton]; omega
    · exact List.not_mem_nil
  rw [this, Bool.or_false]
/-- The targets among the first f fields. -/
def tgF (o d a b c x : Int) : Nat → List Int
  | 0 => []
  | f + 1 => tgF o d a b c x f ++ (if isN o f then [val d a b c x f] else [])
theorem tgF_5 (o d a b c x : Int) : tgF o d a b c x 5 = tgL o a b c := by
  simp only [tgF, isN_0, isN_1, isN_2, isN_3, isN_4]
  unfold tgL
  by_cases e8 : o = 8
  · subst e8; simp [val]
  · by_cases e9 : o = 9
    · subst e9; simp [val]
    · simp [e8, e9]
theorem tgF_len (o d a b c x : Int) : ∀ f, (tgF o d a b c x f).length ≤ f
  | 0 => by simp [tgF]
  | f + 1 => by
    have := tgF_len o d a b c x f
    rw [tgF, List.length_append]
    split <;> simp <;> omega
end Go.Proofs.YtcgapochcahknaaDoor
namespace Go.Proofs.YtcgapochcahknaaDoor
open Go.ChangeShapes Go.WideShapes Go.ChangeAt Go.RowKit
set_option linter.unusedVariables false
theorem Only.drew {o : Nat} {a w : World} (h : Only o a w) : Only o a w.drew := ⟨h.os, h.tape, h.output, h.size, h.block⟩
set_option maxRecDepth 100000 in
set_option maxHeartbeats 8000000 in
theorem goals87 (n a cap : Nat) (c : Cd) (w : World) (R : RowI w a n c.O c.D c.A c.B c.C c.X) (n1 : n ≤ 600) (hX : Wds c.X n) : Calls Tryd.prog 93 #[.slice (some ⟨a, 0, none⟩) n cap] w fun e w' => ∃ v, e = .returned v ∧ IRow w' v (c.gl n) ∧ Below w.heap.size w w' := by
  obtain ⟨i3, hi3, hz30, hz31, hz32⟩ := info_parts info3
  have HR : Hid (RowI w a n c.O c.D c.A c.B c.C c.X) := R
  have HX : Hid (Wds c.X n) := hX
  clear R hX
  go_enter Tryd.func93, Tryd.ntmps93
  go_wp2
  go_loopw [3, 10] (fun vv i wr => ∃ (k : Nat) (u : Value), k ≤ n ∧ i = .int .i64 k ∧ u = vv ∧ Hid (Ri w.heap.size wr u (c.gl k)) ∧ Hid (Below w.heap.size w wr)) (fun _ i _ => n - (intOf i).toNat)
  case atStart => exact ⟨0, _, by omega, rfl, rfl, ⟨World.ownsRow_nil _ _ _ _, Nat.le_refl _⟩, Below.refl _ _⟩
  case round =>
    obtain ⟨k, u, hk, rfl, rfl, HU, HB⟩ := hrel
    by_cases hkn : k < n
    · have i1 : (k : Int) < (n : Int) := by omega
      have i0 : (0 : Int) ≤ (k : Int) := by omega
      have RK := HR.out.next HB.out
      have c0 := RK.c0 k hkn
      have c1 := RK.c1 k hkn
      have c2 := RK.c2 k hkn
      have c3 := RK.c3 k hkn
      have c4 := RK.c4 k hkn
      have c5 := RK.c5 k hkn
      have BA : Hid (Below wr.heap.size wr (wr.alloc (.cells #[.int .i64 (c.O k), .int .i64 (c.D k), .int .i64 (c.A k), .int .i64 (c.B k), .int .i64 (c.C k), .int .u32 (c.X k)] 35))) := (Below.refl _ _).alloc (Nat.le_refl _) _
      have h71 := vals44 (c.O k) (c.D k) (c.A k) (c.B k) (c.C k) (c.X k) (wr.alloc (.cells #[.int .i64 (c.O k), .int .i64 (c.D k), .int .i64 (c.A k), .int .i64 (c.B k), .int .i64 (c.C k), .int .u32 (c.X k)] 35)) (HX.out k hkn).1 (HX.out k hkn).2
      have HD0 : Hid ((wr.alloc (.cells #[.int .i64 (c.O k), .int .i64 (c.D k), .int .i64 (c.A k), .int .i64 (c.B k), .int .i64 (c.C k), .int .u32 (c.X k)] 35)).cell? ⟨wr.heap.size, 0, none⟩ = some (.int .i64 (c.O k))) := by show _ = _; simp
      have HG : Hid (c.gl (k + 1) = c.gl k ++ tgF (c.O k) (c.D k) (c.A k) (c.B k) (c.C k) (c.X k) 5) := by show _ = _; rw [tgF_5]; rfl
      have HLn : Hid ((c.gl k).length ≤ 1200) := by have := c.gl_len k; show _ ≤ _; omega
      generalize c.gl k = M at HU HG HLn
      generalize c.O k = o at c0 h71 HD0 HG BA
      generalize c.D k = dd at c1 h71 HG BA HD0
      generalize c.A k = aa at c2 h71 HG BA HD0
      generalize c.B k = bb at c3 h71 HG BA HD0
      generalize c.C k = cc at c4 h71 HG BA HD0
      generalize c.X k = xx at c5 h71 HG BA HD0
      clear RK
      go_wp2_with (go_at_call 72; refine h71.mono ?_; rintro e w2 ⟨rfl, B2⟩)
      have HB2 : Hid (Below wr.heap.size wr w2) := BA.out.trans (B2.mono BA.out.size)
      have HD2 : Hid (w2.cell? ⟨wr.heap.size, 0, none⟩ = some (.int .i64 o)) := cell_nx HD0.out B2
      have HUq : Hid (∀ q, u.ownBlock = some q → q < wr.heap.size) := fun q hq => (HU.out.lt q hq).2
      have HU2 : Hid (Ri w.heap.size w2 u (M ++ tgF o dd aa bb cc xx 0)) := by show Ri _ _ _ _; rw [show M ++ tgF o dd aa bb cc xx 0 = M by simp [tgF]]; exact HU.out.next HB2.out
      have HW2 : Hid (Below w.heap.size w w2) := HB.out.trans (HB2.out.mono HB.out.size)
      have hxi := ixiAll dd aa bb cc xx
      obtain ⟨q1, hq1⟩ : ∃ q1, wr.heap.size = q1 := ⟨_, rfl⟩
      have HQ1 : Hid (q1 < w2.heap.size) := by have := World.block_lt_of_cell? _ _ HD2.out; rw [← hq1]; exact this
      have HQu : Hid (∀ q, u.ownBlock = some q → q ≠ q1) := fun q hq => by have := HUq.out q hq; omega
      rw [hq1] at HD2 ⊢
      clear h71 c0 c1 c2 c3 c4 c5 HU HB HB2 BA HD0 B2 hq1 HUq
      go_loopw [3, 16] (fun vv i wx => ∃ (f : Nat) (u : Value), f ≤ 5 ∧ i = .int .i64 f ∧ u = vv ∧ Hid (Ri w.heap.size wx u (M ++ tgF o dd aa bb cc xx f)) ∧ Hid (Below w.heap.size w wx) ∧ Hid (wx.cell? ⟨q1, 0, none⟩ = some (.int .i64 o)) ∧ Hid (∀ q, u.ownBlock = some q → q ≠ q1)) (fun _ i _ => 5 - (intOf i).toNat)
      case atStart => exact ⟨0, _, by omega, rfl, rfl, HU2, HW2, HD2, HQu⟩
      case round =>
        obtain ⟨f, u, hf, rfl, rfl, UF, BF, DF, QF⟩ := hrel
        clear HU2 HW2 HD2 HQu
        by_cases hf5 : f < 5
        · have f5 : (f : Int) < 5 := by omega
          have f0 : (0 : Int) ≤ (f : Int) := by omega
          have hix := fun v => hxi f hf5 v
          have dx := DF.out
          have hn := isnumAll o f hf5 wr
          have HTf : Hid (tgF o dd aa bb cc xx (f + 1) = tgF o dd aa bb cc xx f ++ (if isN o f then [val dd aa bb cc xx f] else [])) := rfl
          have HTl : Hid ((tgF o dd aa bb cc xx f).length ≤ 5) := by have := tgF_len o dd aa bb cc xx f; show _ ≤ _; omega
          clear hxi
          generalize val dd aa bb cc xx f = vf at hix HTf
          cases hN : isN o f
          · rw [hN] at hn HTf
            have UF2 : Hid (Ri w.heap.size wr u (M ++ tgF o dd aa bb cc xx (f + 1))) := by show Ri _ _ _ _; rw [HTf.out, show (if false = true then [vf] else []) = ([] : List Int) by rfl, List.append_nil]; exact UF.out
            clear UF HTf
            go_wp2_with (go_at_call 100; refine hn.mono ?_; rintro e w6 ⟨rfl, hw⟩; subst w6)
            go_roundw
            case rel => exact ⟨f + 1, _, by omega, by go_num, rfl, UF2, BF, DF, QF⟩
            case measure => simp [intOf]; omega
          · rw [hN] at hn HTf
            have HTg : Hid (tgF o dd aa bb cc xx (f + 1) = tgF o dd aa bb cc xx f ++ [vf]) := HTf
            clear HTf
            generalize tgF o dd aa bb cc xx f = Lf at UF HTg HTl
            go_wp2_with (first | (go_at_call 100; refine hn.mono ?_; rintro e w6 ⟨rfl, hw⟩; subst w6) | (at_builtin; refine wpList_append_lies _ rfl _ _ 45 rfl w.heap.size 3 i3 (.int .i64 0) 1 8 Tryd.underlying45 hi3 hz30 hz31 hz32 rfl (by decide) _ _ _ rfl (UF.out.alloc _).1 ⟨_, 0, none⟩ 1 1 [.int .i64 vf] rfl rfl ?_ ?_ (by decide) ?_ ?_ ?_ _ rfl ?_))
            · intro j u hj
              match j, hj with
              | 0, hj => simp at hj; subst hj; simp [Addr.add]
            · intro u hu; simp at hu; subst hu; rfl
            · have := HLn.out; have := HTl.out; simp only [List.length_append]; unfold maxLen; omega
            · have := HLn.out; have := HTl.out; simp only [List.length_append]; omega
            · have := UF.out.2; simp; omega
            intro g3 cp3 w3 hown hgrow hat hlt
            have B3 : Hid (Below w.heap.size w w3) := (BF.out.alloc BF.out.size _).grown hgrow (by have := BF.out.size; simp; omega) (fun q hq => (UF.out.lt q hq).1)
            have U3 : Hid (Ri w.heap.size w3 (.slice (some ⟨g3, 0, none⟩) (M.length + Lf.length + 1) cp3) (M ++ tgF o dd aa bb cc xx (f + 1))) := by
              show Ri _ _ _ _
              rw [HTg.out, ← List.append_assoc]
              refine ⟨?_, B3.out.size⟩
              have hl : (M ++ Lf ++ [vf]).length = M.length + Lf.length + 1 := by simp only [List.length_append, List.length_cons, List.length_nil]
              rw [hl, il_app]
              exact hown
            have hq1l := World.block_lt_of_cell? _ _ dx
            have D3 : Hid (w3.cell? ⟨q1, 0, none⟩ = some (.int .i64 o)) := (hgrow.cell_far ⟨q1, 0, none⟩ (by simp; exact Nat.lt_succ_of_lt hq1l) (fun e => QF.out q1 e.symm rfl)).trans (cell_nx dx ((Below.refl _ _).alloc (Nat.le_refl _) _))
            have Q3 : Hid (∀ q, (Value.slice (some ⟨g3, 0, none⟩) (M.length + Lf.length + 1) cp3).ownBlock = some q → q ≠ q1) := fun q hq => by
              have hq : g3 = q := by simpa [Value.ownBlock] using hq
              subst hq
              rcases hat with e | e
              · exact QF.out _ e
              · simp at e hq1l; omega
            clear hown hgrow hat hlt UF BF DF QF HTg HTl hq1l
            go_wp2
            go_roundw
            case rel => exact ⟨f + 1, _, by omega, by go_num, by first | rfl | simp, U3, B3, D3, Q3⟩
            case measure => simp [intOf]; omega
        · obtain rfl : f = 5 := by omega
          have f5 : ¬ ((5 : Nat) : Int) < 5 := by omega
          have U4 : Hid (Ri w.heap.size wr u (c.gl (k + 1))) := by rw [HG.out]; exact UF
          clear UF DF QF
          go_wp2
          go_roundw
          case rel => exact ⟨k + 1, _, by omega, by go_num, rfl, U4, BF⟩
          case measure => simp [intOf]; omega
    · obtain rfl : k = n := by omega
      have i1 : ¬ (k : Int) < (k : Int) := by omega
      go_wp2
      go_ret
      exact ⟨_, rfl, HU.out.own.row, HB.out⟩
set_option maxRecDepth 100000 in
theorem ends90 (o : Int) (w : World) : Calls Tryd.prog 90 #[.int .i64 o] w fun e w' => e = .returned (.bool (cutO o)) ∧ w' = w := by
  have key : (cutO o = true ∧ (o = 8 ∨ o = 9 ∨ o = 11 ∨ o = 10)) ∨ (cutO o = false ∧ o ≠ 8 ∧ o ≠ 9 ∧ o ≠ 11 ∧ o ≠ 10) := by
    unfold cutO
    by_cases e8 : o = 8
    · subst e8; exact Or.inl ⟨rfl, Or.inl rfl⟩
    by_cases e9 : o = 9
    · subst e9; exact Or.inl ⟨rfl, Or.inr (Or.inl rfl)⟩
    by_cases e11 : o = 11
    · subst e11; exact Or.inl ⟨rfl, Or.inr (Or.inr (Or.inl rfl))⟩
    by_cases e10 : o = 10
    · subst e10; exact Or.inl ⟨rfl, Or.inr (Or.inr (Or.inr rfl))⟩
    · exact Or.inr ⟨by simp [e8, e9, e10, e11], e8, e9, e11, e10⟩
  rcases key with ⟨hcu, hoo⟩ | ⟨hcu, e8, e9, e11, e10⟩
  · rw [hcu]
    clear hcu
    rcases hoo with rfl | rfl | rfl | rfl
    all_goals
      go_enter Tryd.func90, Tryd.ntmps90
      go_wp2
      go_ret
      exact ⟨rfl, rfl⟩
  · rw [hcu]
    have f8 : (o == 8) = false := by simp [e8]
    have f9 : (o == 9) = false := by simp [e9]
    have f11 : (o == 11) = false := by simp [e11]
    have f10 : (o == 10) = false := by simp [e10]
    clear hcu e8 e9 e10 e11
    go_enter Tryd.func90, Tryd.ntmps90
    go_wp2
    go_ret
    exact ⟨rfl, rfl⟩
set_option maxRecDepth 100000 in
set_option maxHeartbeats 4000000 in
theorem behind88 (n a cap : Nat) (c : Cd) (w : World) (R : RowI w a n c.O c.D c.A c.B c.C c.X) (n0 : 1 ≤ n) (n1 : n ≤ 600) (hc : n ≤ cap) : Calls Tryd.prog 94 #[.slice (some ⟨a, 0, none⟩) n cap] w fun e w' => ∃ v, e = .returned v ∧ IRow w' v (c.br (n - 1)) ∧ Below w.heap.size w w' := by
  obtain ⟨i3, hi3, hz30, hz31, hz32⟩ := info_parts info3
  obtain ⟨m, rfl⟩ : ∃ m, n = m + 1 := ⟨n - 1, by omega⟩
  have HR : Hid (RowI w a (m + 1) c.O c.D c.A c.B c.C c.X) := R
  have q0 : (0 : Int) ≤ (m : Int) := by omega
  have q1 : (m : Int) ≤ (cap : Int) := by omega
  have q2 : ¬ cap = 0 := by omega
  simp only [Nat.add_sub_cancel]
  clear R
  go_enter Tryd.func94, Tryd.ntmps94
  go_wp2
  go_loopw [3, 12] (fun vv i wr => ∃ (k : Nat) (u : Value), k ≤ m ∧ i = .int .i64 k ∧ u = vv ∧ Hid (Ri w.heap.size wr u (c.br k)) ∧ Hid (Below w.heap.size w wr)) (fun _ i _ => m - (intOf i).toNat)
  case atStart => exact ⟨0, _, by omega, rfl, rfl, ⟨World.ownsRow_nil _ _ _ _, Nat.le_refl _⟩, Below.refl _ _⟩
  case round =>
    obtain ⟨k, u, hk, rfl, rfl, HU, HB⟩ := hrel
    by_cases hkn : k < m
    · have i1 : (k : Int) < (m : Int) := by omega
      have i0 : (0 : Int) ≤ (k : Int) := by omega
      have RK := HR.out.next HB.out
      have c0 := RK.c0 k (by omega)
      have c1 := RK.c1 k (by omega)
      have c2 := RK.c2 k (by omega)
      have c3 := RK.c3 k (by omega)
      have c4 := RK.c4 k (by omega)
      have c5 := RK.c5 k (by omega)
      have BA : Hid (Below w.heap.size w (wr.alloc (.cells #[.int .i64 (c.O k), .int .i64 (c.D k), .int .i64 (c.A k), .int .i64 (c.B k), .int .i64 (c.C k), .int .u32 (c.X k)] 35))) := HB.out.alloc HB.out.size _
      have UA : Hid (Ri w.heap.size (wr.alloc (.cells #[.int .i64 (c.O k), .int .i64 (c.D k), .int .i64 (c.A k), .int .i64 (c.B k), .int .i64 (c.C k), .int .u32 (c.X k)] 35)) u (c.br k)) := HU.out.alloc _
      have HC : Hid (c.br (k + 1) = c.br k ++ (if cutO (c.O k) then [((k + 1 : Nat) : Int)] else [])) := rfl
      have HLn : Hid ((c.br k).length ≤ 600) := by have := c.br_len k; show _ ≤ _; omega
      have HCu : Hid (cutO (c.O k) = (c.O k == 8 || c.O k == 9 || c.O k == 11 || c.O k == 10)) := rfl
      clear RK HU HB
      generalize c.br k = L at UA HC HLn
      generalize c.O k = o at c0 HC HCu BA UA
      have h90 := fun v => ends90 o v
      generalize cutO o = cc at h90 HC
      clear HCu
      cases cc
      case true =>
        have HC2 : Hid (c.br (k + 1) = L ++ [((k + 1 : Nat) : Int)]) := HC
        have wk : wrap64 ((k : Int) + 1) = (k : Int) + 1 := by unfold wrap64; omega
        clear HC
        go_wp2_with (first | (go_at_call 90; refine (h90 _).mono ?_; rintro e w1 ⟨rfl, hw⟩; subst w1) | (at_builtin; refine wpList_append_own _ rfl _ _ 45 rfl w.heap.size 3 i3 (.int .i64 0) 1 8 Tryd.underlying45 hi3 hz30 hz31 hz32 rfl (by decide) _ _ _ rfl (UA.out.alloc _).1 ⟨_, 0, none⟩ 1 1 [.int .i64 ((k : Int) + 1)] rfl rfl ?_ ?_ ?_ ?_ ?_ ?_))
        · intro j u hj
          match j, hj with
          | 0, hj => simp at hj; subst hj; simp [Addr.add]
        · intro u hu; simp at hu; subst hu; rfl
        · have := HLn.out; unfold maxLen; omega
        · have := HLn.out; omega
        · have := BA.out.size; simp at *; omega
        intro v3 w3 hown hgrow _
        have B3 : Hid (Below w.heap.size w w3) := (BA.out.alloc BA.out.size _).grown hgrow (by have := BA.out.size; simp at *; omega) (fun q hq => (UA.out.lt q hq).1)
        have U3 : Hid (Ri w.heap.size w3 v3 (c.br (k + 1))) := by
          show Ri _ _ _ _
          rw [HC2.out]
          refine ⟨?_, B3.out.size⟩
          rw [List.length_append, il_app]
          exact hown
        clear hown hgrow UA BA
        go_wp2
        go_roundw
        case rel => exact ⟨k + 1, _, by omega, by go_num, rfl, U3, B3⟩
        case measure => simp [intOf]; omega
      case false =>
        have HC2 : Hid (c.br (k + 1) = L) := by have := HC.out; show _ = _; rw [this]; simp
        clear HC
        go_wp2_with (go_at_call 90; refine (h90 _).mono ?_; rintro e w1 ⟨rfl, hw⟩; subst w1)
        go_roundw
        case rel => exact ⟨k + 1, _, by omega, by go_num, rfl, by rw [HC2.out]; exact UA, BA⟩
        case measure => simp [intOf]; omega
    · obtain rfl : k = m := by omega
      have i1 : ¬ (k : Int) < (k : Int) := by omega
      go_wp2
      go_ret
      exact ⟨_, rfl, HU.out.own.row, HB.out⟩
end Go.Proofs.YtcgapochcahknaaDoor
namespace Go.Proofs.YtcgapochcahknaaDoor
open Go.ChangeShapes Go.WideShapes Go.ChangeAt Go.RowKit
set_option linter.unusedVariables false
set_option maxRecDepth 100000 in
set_option maxHeartbeats 4000000 in
theorem begins60 (a cap : Nat) (c : Cd) (K : Ok c) (w : World) (R : RowI w a c.n c.O c.D c.A c.B c.C c.X) (hc : c.n ≤ cap) : Calls Tryd.prog 63 #[.slice (some ⟨a, 0, none⟩) c.n cap] w fun e w' => (∃ S, e = .returned (.agg (bits S)) ∧ Hid (∀ i, i < c.n → S i = c.bg i)) ∧ Below w.heap.size w w' := by
  have z44 := zv44
  obtain ⟨W, hW⟩ : ∃ W, w.alloc (.cells (bits fun _ => false) 84) = W := ⟨_, rfl⟩
  have HW : Hid (Own W w.heap.size 600 (fun _ => .bool false)) := by show Own _ _ _ _; rw [← hW]; exact own_vals w _ 600 84
  have HBW : Hid (Below w.heap.size w W) := by show Below _ _ _; rw [← hW]; exact (Below.refl _ _).alloc (Nat.le_refl _) _
  have BA : Hid (Below W.heap.size W (W.alloc (.cells #[.int .i64 0] 3))) := (Below.refl _ _).alloc (Nat.le_refl _) _
  have HI0 : Hid (IRow (W.alloc (.cells #[.int .i64 0] 3)) (.slice (some ⟨W.heap.size, 0, none⟩) 1 1) [0]) := Or.inr ⟨W.heap.size, 1, rfl, by simp, ints_at _ _ rfl [0]⟩
  have H87 : Hid (∀ v, Below w.heap.size w v → Calls Tryd.prog 93 #[.slice (some ⟨a, 0, none⟩) c.n cap] v fun e w' => ∃ u, e = .returned u ∧ IRow w' u (c.gl c.n) ∧ Below v.heap.size v w') := fun v b => goals87 c.n a cap c v (R.next b) K.n1 K.wd
  have H88 : Hid (∀ v, Below w.heap.size w v → Calls Tryd.prog 94 #[.slice (some ⟨a, 0, none⟩) c.n cap] v fun e w' => ∃ u, e = .returned u ∧ IRow w' u (c.br (c.n - 1)) ∧ Below v.heap.size v w') := fun v b => behind88 c.n a cap c v (R.next b) K.n0 K.n1 hc
  have H78 : Hid (∀ v g, Sets v g [[0], c.gl c.n, c.br (c.n - 1)] → Calls Tryd.prog 92 #[.slice (some ⟨g, 0, none⟩) 3 3] v fun e w' => e = .returned (.agg (bits (memB [[0], c.gl c.n, c.br (c.n - 1)].flatten))) ∧ Below v.heap.size v w') := fun v g S => joined78 g 3 3 [[0], c.gl c.n, c.br (c.n - 1)] v rfl S (fun L hL t ht => by
      have n1 := K.n1
      have hL : L = [0] ∨ L = c.gl c.n ∨ L = c.br (c.n - 1) := by simpa using hL
      rcases hL with rfl | rfl | rfl
      · have : t = 0 := by simpa using ht
        omega
      · obtain ⟨i, hi, h⟩ := c.gl_mem t c.n ht
        have hT := K.tgs i hi
        unfold tgL at h
        split at h
        · rename_i e
          have := hT.1 e
          have : t = c.A i := by simpa using h
          omega
        · split at h
          · rename_i e
            have := hT.2 e
            have : t = c.B i ∨ t = c.C i := by simpa using h
            omega
          · cases h
      · have := c.br_mem t _ ht; omega) (by omega) (fun L hL => by
      have n1 := K.n1
      have hL : L = [0] ∨ L = c.gl c.n ∨ L = c.br (c.n - 1) := by simpa using hL
      rcases hL with rfl | rfl | rfl
      · simp
      · have := c.gl_len c.n; omega
      · have := c.br_len (c.n - 1); omega)
  have HE : Hid (∀ i, i < c.n → memB [[0], c.gl c.n, c.br (c.n - 1)].flatten i = c.bg i) := fun i hi => bg_set c i hi
  clear R K
  generalize memB [[0], c.gl c.n, c.br (c.n - 1)].flatten = S at H78 HE
  generalize c.gl c.n = G at H87 H78
  generalize c.br (c.n - 1) = Br at H88 H78
  go_enter Tryd.func63, Tryd.ntmps63
  go_wp2_with (first | (go_at_call 93; refine (H87.out _ (HBW.out.trans (BA.out.mono HBW.out.size))).mono ?_; rintro e w1 ⟨v1, rfl, I1, B1⟩; obtain ⟨ad1, cp1, rfl⟩ := I1.is; have B01 : Below w.heap.size w w1 := (HBW.out.trans (BA.out.mono HBW.out.size)).trans (B1.mono (by have := HBW.out.size; have := BA.out.size; omega))) | (go_at_call 94; refine (H88.out _ B01).mono ?_; rintro e w2 ⟨v2, rfl, I2, B2⟩; obtain ⟨ad2, cp2, rfl⟩ := I2.is) | (go_at_call 92; refine (H78.out _ _ ?_).mono ?_))
  · intro i hi
    have : i = 0 ∨ i = 1 ∨ i = 2 := by simp at hi; omega
    rcases this with rfl | rfl | rfl
    · exact ⟨_, by simp, ((HI0.out.next B1).next B2).next ((Below.refl _ _).alloc (Nat.le_refl _) _)⟩
    · exact ⟨_, by simp, (I1.next B2).next ((Below.refl _ _).alloc (Nat.le_refl _) _)⟩
    · exact ⟨_, by simp, I2.next ((Below.refl _ _).alloc (Nat.le_refl _) _)⟩
  rintro e w3 ⟨rfl, B3⟩
  have BW2 : Below W.heap.size W w2 := (BA.out.trans (B1.mono BA.out.size)).trans (B2.mono (by have := BA.out.size; have := B1.size; omega))
  have BW3 : Below W.heap.size W w3 := (BW2.alloc BW2.size _).trans (B3.mono (by have := BW2.size; simp; omega))
  have HO3 : Hid (Own w3 w.heap.size 600 (fun _ => .bool false)) := HW.out.next BW3
  have HB3 : Hid (Below w.heap.size w w3) := HBW.out.trans (BW3.mono HBW.out.size)
  clear BW2 BW3 B3 I1 I2 B1 B2 hW
  go_wp2_with (refine wpList_store_own rfl 84 _ _ rfl w.heap.size rfl 600 _ _ rfl HO3.out (fun _ => rfl) size44 ?_; intro w4 O4 K4)
  (try simp only [Exit.inBlock, Exit.then])
  exact bodyPost_ret (results_own rfl _ _ w.heap.size 600 _ _ rfl O4 Tryd.underlying84 rfl size44) rfl ⟨⟨S, rfl, HE⟩, HB3.out.trans (K4.below (Nat.le_refl _) HB3.out.size)⟩
set_option maxRecDepth 100000 in
set_option maxHeartbeats 4000000 in
theorem none62 (w : World) : Calls Tryd.prog 65 #[] w fun e w' => e = .returned (.agg (vals (fun r => .int .i64 (r : Int)) 400)) ∧ Below w.heap.size w w' := by
  have z67 := zv67
  have J0 : Hid (Own ((w.alloc (.cells (vals (fun _ => .int .i64 0) 400) 87)).alloc (.cells (vals (fun _ => .int .i64 0) 400) 87)) (w.heap.size + 1) 400 (fun i => .int .i64 (if i < 0 then (i : Int) else 0)) ∧ Own ((w.alloc (.cells (vals (fun _ => .int .i64 0) 400) 87)).alloc (.cells (vals (fun _ => .int .i64 0) 400) 87)) w.heap.size 400 (fun _ => .int .i64 0) ∧ Below w.heap.size w ((w.alloc (.cells (vals (fun _ => .int .i64 0) 400) 87)).alloc (.cells (vals (fun _ => .int .i64 0) 400) 87))) := by
    have O1 := own_vals w (fun _ => .int .i64 0) 400 87
    have O2 := own_vals (w.alloc (.cells (vals (fun _ => .int .i64 0) 400) 87)) (fun _ => .int .i64 0) 400 87
    rw [World.size_alloc] at O2
    exact ⟨O2.mono (Nat.le_refl _) fun i _ => by rw [if_neg (by omega)], O1.next ((Below.refl _ _).alloc (Nat.le_refl _) _), ((Below.refl _ _).alloc (Nat.le_refl _) _).alloc (by simp) _⟩
  go_enter Tryd.func65, Tryd.ntmps65
  go_wp2
  go_loopw [3] (fun i wx => ∃ k : Nat, k ≤ 400 ∧ i = .int .i64 k ∧ Hid (Own wx (w.heap.size + 1) 400 (fun i => .int .i64 (if i < k then (i : Int) else 0)) ∧ Own wx w.heap.size 400 (fun _ => .int .i64 0) ∧ Below w.heap.size w wx)) (fun i _ => 400 - (intOf i).toNat)
  case atStart => exact ⟨0, by omega, rfl, J0⟩
  case round =>
    obtain ⟨k, hk, rfl, HJ⟩ := hrel
    clear J0
    by_cases hkn : k < 400
    · have i1 : (k : Int) < 400 := by omega
      have i0 : (0 : Int) ≤ (k : Int) := by omega
      have ck := HJ.out.1.cell k hkn
      have fk := HJ.out.1.free k
      have HJ2 : Hid (Own (wr.setCell ⟨w.heap.size + 1, k, none⟩ (.int .i64 (k : Int))) (w.heap.size + 1) 400 (fun i => .int .i64 (if i < k + 1 then (i : Int) else 0)) ∧ Own (wr.setCell ⟨w.heap.size + 1, k, none⟩ (.int .i64 (k : Int))) w.heap.size 400 (fun _ => .int .i64 0) ∧ Below w.heap.size w (wr.setCell ⟨w.heap.size + 1, k, none⟩ (.int .i64 (k : Int)))) := ⟨HJ.out.1.set k _ hkn (fun i hi => by
        by_cases e : i = k
        · subst e; rw [if_pos (by omega), if_pos rfl]
        · rw [if_neg e]
          by_cases e2 : i < k
          · rw [if_pos e2, if_pos (by omega)]
          · rw [if_neg e2, if_neg (by omega)]), HJ.out.2.1.but ((Only.refl _ _).setCell _ _) (by omega), HJ.out.2.2.setCell (p := ⟨w.heap.size + 1, k, none⟩) (by show w.heap.size ≤ w.heap.size + 1; omega) _⟩
      rw [if_neg (Nat.lt_irrefl k)] at ck
      clear HJ
      go_wp2
      go_roundw
      case rel => exact ⟨k + 1, by omega, by go_num, HJ2⟩
      case measure => simp [intOf]; omega
    · obtain rfl : k = 400 := by omega
      have i1 : ¬ ((400 : Nat) : Int) < 400 := by omega
      have HE : Hid (Own wr (w.heap.size + 1) 400 (fun i => .int .i64 (i : Int))) := HJ.out.1.mono (Nat.le_refl _) (fun i hi => by rw [if_pos hi])
      go_wp2_with (first | (refine wpList_load_own rfl 87 _ rfl (w.heap.size + 1) rfl 400 _ _ HE.out Tryd.underlying87 rfl size67 ?_) | (refine wpList_store_own rfl 87 _ _ rfl w.heap.size rfl 400 _ _ rfl HJ.out.2.1 (fun _ => rfl) size67 ?_; intro w2 O2 K2))
      (try simp only [Exit.inBlock, Exit.then])
      exact bodyPost_ret (results_own rfl _ _ w.heap.size 400 _ _ rfl O2 Tryd.underlying87 rfl size67) rfl ⟨rfl, HJ.out.2.2.trans (K2.below (Nat.le_refl _) HJ.out.2.2.size)⟩
/-- What a written register leaves of the copies. -/
def fgF (F : Nat → Int) (d : Int) (r : Nat) : Int := if r = d.toNat ∨ F r = d then (r : Int) else F r
set_option maxRecDepth 100000 in
set_option maxHeartbeats 4000000 in
theorem forget89 (q : Nat) (F : Nat → Int) (d : Int) (w : World) (d0 : 0 ≤ d) (OS : Own w q 400 (fun r => .int .i64 (F r))) : Calls Tryd.prog 98 #[.pointer (some ⟨q, 0, none⟩), .int .i64 d] w fun e w' => e = .returned (.tuple #[]) ∧ Own w' q 400 (fun r => .int .i64 (fgF F d r)) ∧ Only q w w' := by
  have J0 : Hid (Own w q 400 (fun r => .int .i64 (if r < 0 then fgF F d r else F r))) := OS.mono (Nat.le_refl _) fun i _ => by rw [if_neg (by omega)]
  clear OS
  go_enter Tryd.func98, Tryd.ntmps98
  go_wp2
  go_loopw [7] (fun i wx => ∃ k : Nat, k ≤ 400 ∧ i = .int .i64 k ∧ Hid (Own wx q 400 (fun r => .int .i64 (if r < k then fgF F d r else F r))) ∧ Hid (Only q w wx)) (fun i _ => 400 - (intOf i).toNat)
  case atStart => exact ⟨0, by omega, rfl, J0, Only.refl _ _⟩
  case round =>
    obtain ⟨k, hk, rfl, HJ, HO⟩ := hrel
    clear J0
    by_cases hkn : k < 400
    · have i1 : (k : Int) < 400 := by omega
      have i0 : (0 : Int) ≤ (k : Int) := by omega
      have ck := HJ.out.cell k hkn
      have fk := HJ.out.free k
      rw [if_neg (Nat.lt_irrefl k)] at ck
      have HG : Hid (fgF F d k = if k = d.toNat ∨ F k = d then (k : Int) else F k) := rfl
      have HStep : Hid (∀ i, i ≠ k → (if i < k + 1 then fgF F d i else F i) = (if i < k then fgF F d i else F i)) := fun i hi => by
        by_cases e : i < k
        · rw [if_pos e, if_pos (by omega)]
        · rw [if_neg e, if_neg (by omega)]
      have HSame : Hid (fgF F d k = F k → ∀ nq, Own (wr.drewN nq) q 400 (fun r => .int .i64 (if r < k + 1 then fgF F d r else F r))) := fun h nq => (HJ.out.drewN nq).mono (Nat.le_refl _) (fun i hi => by
        by_cases e : i = k
        · subst e; rw [if_pos (by omega), if_neg (Nat.lt_irrefl i), h]
        · rw [HStep.out i e])
      have HPut : Hid (fgF F d k = (k : Int) → ∀ nq, Own ((wr.drewN nq).setCell ⟨q, k, none⟩ (.int .i64 (k : Int))) q 400 (fun r => .int .i64 (if r < k + 1 then fgF F d r else F r))) := fun h nq => (HJ.out.drewN nq).set k _ hkn (fun i hi => by
        by_cases e : i = k
        · subst e; rw [if_pos (by omega), if_pos rfl, h]
        · rw [HStep.out i e, if_neg e])
      have HOd : Hid (∀ nq, Only q w (wr.drewN nq)) := fun nq => HO.out.drewN nq
      have HOp : Hid (∀ nq, Only q w ((wr.drewN nq).setCell ⟨q, k, none⟩ (.int .i64 (k : Int)))) := fun nq => (HO.out.drewN nq).setCell _ _
      generalize fgF F d k = gk at HG HSame HPut
      generalize F k = fk' at ck HG HSame
      clear HJ HO HStep
      by_cases e1 : (k : Int) = d
      · have hg : gk = (k : Int) := by rw [HG.out, if_pos (Or.inl (by omega))]
        have O2 : Hid _ := HPut.out hg
        have g1 : ((k : Int) == d) = true := by simp [e1]
        subst hg
        clear HG HSame HPut e1
        go_wp2
        go_quiet (fail)
        go_wp2
        go_roundw
        case rel => exact ⟨k + 1, by omega, by go_num, O2.out _, HOp.out _⟩
        case measure => simp [intOf]; omega
      · have g1 : ((k : Int) == d) = false := by simp [e1]
        by_cases e2 : fk' = d
        · have hg : gk = (k : Int) := by rw [HG.out, if_pos (Or.inr e2)]
          have O2 : Hid _ := HPut.out hg
          have g2 : (fk' == d) = true := by simp [e2]
          subst hg
          clear HG HSame HPut e1 e2
          go_wp2
          go_quiet (fail)
          go_wp2
          go_roundw
          case rel => exact ⟨k + 1, by omega, by go_num, O2.out _, HOp.out _⟩
          case measure => simp [intOf]; omega
        · have hg : gk = fk' := by rw [HG.out, if_neg (by omega)]
          have O2 : Hid _ := HSame.out hg
          have g2 : (fk' == d) = false := by simp [e2]
          clear HG HSame HPut hg e1 e2
          go_wp2
          go_quiet (fail)
          go_wp2
          go_roundw
          case rel => exact ⟨k + 1, by omega, by go_num, O2.out _, HOd.out _⟩
          case measure => simp [intOf]; omega
    · obtain rfl : k = 400 := by omega
      have i1 : ¬ ((400 : Nat) : Int) < 400 := by omega
      have HE : Hid (Own wr q 400 (fun r => .int .i64 (fgF F d r))) := HJ.out.mono (Nat.le_refl _) (fun i hi => by rw [if_pos hi])
      go_wp2
      first | go_end0 | refine bodyPost_ret (results_none rfl _ _ _) rfl ?_
      exact ⟨rfl, HE.out, HO.out⟩
end Go.Proofs.YtcgapochcahknaaDoor
