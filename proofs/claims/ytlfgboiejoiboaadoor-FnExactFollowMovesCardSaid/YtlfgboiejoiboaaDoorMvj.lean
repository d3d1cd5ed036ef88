/- What FollowMoves makes of code: told without a program. The program's begins: where blocks begin; registers that are no copies; what a written register forgets. The program's begins, noCopies, forget and followed. The program's followed: an instruction that reads no copies, and of what each register is a copy behind it. -/
import Derived.Test.YtlfgboiejoiboaaDoorUnm
import Derived.Test.YtlfgboiejoiboaaDoorBgm
import Derived.Test.YtlfgboiejoiboaaDoorUni
import Derived.Deep.QuietTactic
import Derived.BigQuiet
namespace Go.Proofs.YtlfgboiejoiboaaDoor
open Go.ChangeShapes Go.WideShapes Go.ChangeAt Go.RowKit
set_option linter.unusedVariables false
/-- How many registers an instruction reads. -/
def kN (o x : Int) : Nat := (opsL o 0 0 0 x).length
theorem kN_le (o x : Int) : kN o x ≤ 3 := opsL_len o 0 0 0 x
theorem take3 (a b c a' b' c' : Int) (n : Nat) : ([a, b, c].take n).length = ([a', b', c'].take n).length := by simp
theorem take3m (a b c : Int) (n : Nat) : [a, b, c].take n = [a, b, c].take ([0, 0, (0 : Int)].take n).length := by
  rcases (by omega : n = 0 ∨ n = 1 ∨ n = 2 ∨ n = 3 ∨ 3 < n) with rfl | rfl | rfl | rfl | h
  · rfl
  · rfl
  · rfl
  · rfl
  · rw [List.take_of_length_le (by simp; omega), List.take_of_length_le (by simp; omega)]
theorem opsL_take (o a b c x : Int) : opsL o a b c x = [a, b, c].take (kN o x) := by
  unfold kN opsL
  repeat' split
  · rfl
  · rfl
  · exact take3m a b c _
  · rfl
theorem opsL_kN (o a b c x : Int) : (opsL o a b c x).length = kN o x := by
  rw [opsL_take]
  have := kN_le o x
  simp
  omega
/-- What the i-th read becomes. -/
def mvV (F : Nat → Int) (k i : Nat) (v : Int) : Int := if i < k then F v.toNat else v
/-- Of what each register is a copy, behind an instruction. -/
def mvS (F : Nat → Int) (o d a : Int) (r : Nat) : Int := if nmd o 0 then (if r = d.toNat then (if o = 2 then a else d) else if F r = d then (r : Int) else F r) else F r
def Cd.fr (c : Cd) (bg : Nat → Bool) : Nat → Nat → Int
  | 0 => fun _ => 0
  | k + 1 => mvS (if bg k then (fun r => (r : Int)) else c.fr bg k) (c.O k) (c.D k) (mvV (if bg k then (fun r => (r : Int)) else c.fr bg k) (kN (c.O k) (c.X k)) 0 (c.A k))
/-- .. right ahead of an instruction. -/
def Cd.fb (c : Cd) (bg : Nat → Bool) (k : Nat) : Nat → Int := if bg k then (fun r => (r : Int)) else c.fr bg k
theorem Cd.fr_succ (c : Cd) (bg : Nat → Bool) (k : Nat) : c.fr bg (k + 1) = mvS (c.fb bg k) (c.O k) (c.D k) (mvV (c.fb bg k) (kN (c.O k) (c.X k)) 0 (c.A k)) := rfl
/-- Where blocks begin. -/
def Cd.bg (c : Cd) : Nat → Bool := bgF c.O c.A c.B c.C c.n
/-- The code behind FollowMoves. -/
def Cd.mv (c : Cd) : Cd := ⟨c.O, c.D, fun k => mvV (c.fb c.bg k) (kN (c.O k) (c.X k)) 0 (c.A k), fun k => mvV (c.fb c.bg k) (kN (c.O k) (c.X k)) 1 (c.B k), fun k => mvV (c.fb c.bg k) (kN (c.O k) (c.X k)) 2 (c.C k), c.X, c.n⟩
/-- The numbers that the first k tell; the places behind those of the first k that end a block. -/
def Cd.gl (c : Cd) : Nat → List Int
  | 0 => []
  | k + 1 => c.gl k ++ tgL (c.O k) (c.A k) (c.B k) (c.C k)
def Cd.br (c : Cd) : Nat → List Int
  | 0 => []
  | k + 1 => c.br k ++ (if cutO (c.O k) then [((k + 1 : Nat) : Int)] else [])
theorem Cd.gl_len (c : Cd) : ∀ k, (c.gl k).length ≤ 2 * k
  | 0 => by simp [Cd.gl]
  | k + 1 => by
    have := c.gl_len k
    have := tg_len (c.O k) (c.A k) (c.B k) (c.C k)
    rw [Cd.gl, List.length_append]
    omega
theorem Cd.br_len (c : Cd) : ∀ k, (c.br k).length ≤ k
  | 0 => by simp [Cd.br]
  | k + 1 => by
    have := c.br_len k
    rw [Cd.br, List.length_append]
    split <;> simp <;> omega
theorem Cd.gl_mem (c : Cd) (t : Int) : ∀ k, t ∈ c.gl k → ∃ i, i < k ∧ t ∈ tgL (c.O i) (c.A i) (c.B i) (c.C i)
  | 0, h => by cases h
  | k + 1, h => by
    rw [Cd.gl] at h
    rcases List.mem_append.1 h with h | h
    · obtain ⟨i, hi, e⟩ := c.gl_mem t k h
      exact ⟨i, by omega, e⟩
    · exact ⟨k, by omega, h⟩
theorem Cd.br_mem (c : Cd) (t : Int) : ∀ k, t ∈ c.br k → 1 ≤ t ∧ t ≤ k
  | 0, h => by cases h
  | k + 1, h => by
    rw [Cd.br] at h
    rcases List.mem_append.1 h with h | h
    · have := c.br_mem t k h; omega
    · split at h
      · have : t = ((k + 1 : Nat) : Int) := by simpa using h
        omega
      · cases h
theorem inL_mem (x : Nat) : ∀ l, inL x l = memB l x
  | [] => rfl
  | t :: r => by
    rw [inL, inL_mem x r]
    unfold memB
    rw [← Bool.decide_or]
    congr 1
    apply propext
    rw [List.mem_cons]
    constructor
    · rintro (h | h)
      · exact Or.inl h.symm
      · exact Or.inr h
    · rintro (h | h)
      · exact Or.inl h.symm
      · exact Or.inr h
theorem memB_or (a b : List Int) (x : Nat) : memB (a ++ b) x = (memB a x || memB b x) := by
  unfold memB
  rw [← Bool.decide_or]
  congr 1
  exact propext List.mem_append
theorem bgF_is (c : Cd) (x : Nat) : ∀ k, bgF c.O c.A c.B c.C k x = (decide (x = 0) || memB (c.gl k) x || memB (c.br k) x)
  | 0 => by simp [bgF, Cd.gl, Cd.br, memB]
  | k + 1 => by
    rw [bgF, bgF_is c x k, Cd.gl, Cd.br, memB_or, memB_or, inL_mem]
    have e : memB (if cutO (c.O k) then [((k + 1 : Nat) : Int)] else []) x = (cutO (c.O k) && decide (x = k + 1)) := by
      unfold memB
      cases cutO (c.O k)
      · simp
      · simp only [if_true, Bool.true_and, List.mem_singleton]
        congr 1
        apply propext
        omega
    rw [e]
    generalize memB (tgL (c.O k) (c.A k) (c.B k) (c.C k)) x = p
    generalize memB (c.gl k) x = q
    generalize memB (c.br k) x = r
    generalize (cutO (c.O k) && decide (x = k + 1)) = s
    generalize decide (x = 0) = z
    cases p <;> cases q <;> cases r <;> cases s <;> cases z <;> rfl
/-- What the program joins is where blocks begin. -/
theorem bg_set (c : Cd) (x : Nat) (hx : x < c.n) : memB [[0], c.gl c.n, c.br (c.n - 1)].flatten x = c.bg x := by
  have e : [[0], c.gl c.n, c.br (c.n - 1)].flatten = [0] ++ c.gl c.n ++ c.br (c.n - 1) := by simp
  unfold Cd.bg
  rw [e, memB_or, memB_or, bgF_is]
  have e0 : memB [0] x = decide (x = 0) := by
    unfold memB
    congr 1
    apply propext
    rw [List.mem_singleton]
    omega
  rw [e0]
  congr 1
  have hn : c.n = (c.n - 1) + 1 := by omega
  rw [show c.br c.n = c.br ((c.n - 1) + 1) by rw [← hn], Cd.br, memB_or]
  have : memB (if cutO (c.O (c.n - 1)) then [((c.n - 1 + 1 : Nat) : Int)] else []) x = false := by
    unfold memB
    apply decide_eq_false
    split
    · rw [List.mem_singleton]; omega
    · exact List.not_mem_nil
  rw [this, Bool.or_false]
/-- The targets among the first f fields. -/
def tgF (o d a b c x : Int) : Nat → List Int
  | 0 => []
  | f + 1 => tgF o d a b c x f ++ (if isN o f then [val d a b c x f] else [])
theorem tgF_5 (o d a b c x : Int) : tgF o d a b c x 5 = tgL o a b c := by
  simp only [tgF, isN_0, isN_1, isN_2, isN_3, isN_4]
  unfold tgL
  by_cases e8 : o = 8
  · subst e8; simp [val]
  · by_cases e9 : o = 9
    · subst e9; simp [val]
    · simp [e8, e9]
theorem tgF_len (o d a b c x : Int) : ∀ f, (tgF o d a b c x f).length ≤ f
  | 0 => by simp [tgF]
  | f + 1 => by
    have := tgF_len o d a b c x f
    rw [tgF, List.length_append]
    split <;> simp <;> omega
end Go.Proofs.YtlfgboiejoiboaaDoor
namespace Go.Proofs.YtlfgboiejoiboaaDoor
open Go.ChangeShapes Go.WideShapes Go.ChangeAt Go.RowKit
set_option linter.unusedVariables false
theorem Only.drew {o : Nat} {a w : World} (h : Only o a w) : Only o a w.drew := ⟨h.os, h.tape, h.output, h.size, h.block⟩
set_option maxRecDepth 100000 in
set_option maxHeartbeats 8000000 in
theorem goals87 (n a cap : Nat) (c : Cd) (w : World) (R : RowI w a n c.O c.D c.A c.B c.C c.X) (n1 : n ≤ 600) (hX : Wds c.X n) : Calls Tryd.prog 87 #[.slice (some ⟨a, 0, none⟩) n cap] w fun e w' => ∃ v, e = .returned v ∧ IRow w' v (c.gl n) ∧ Below w.heap.size w w' := by
  obtain ⟨i3, hi3, hz30, hz31, hz32⟩ := info_parts info3
  have HR : Hid (RowI w a n c.O c.D c.A c.B c.C c.X) := R
  have HX : Hid (Wds c.X n) := hX
  clear R hX
  go_enter Tryd.func87, Tryd.ntmps87
  go_wp2
  go_loopw [3, 10] (fun vv i wr => ∃ (k : Nat) (u : Value), k ≤ n ∧ i = .int .i64 k ∧ u = vv ∧ Hid (Ri w.heap.size wr u (c.gl k)) ∧ Hid (Below w.heap.size w wr)) (fun _ i _ => n - (intOf i).toNat)
  case atStart => exact ⟨0, _, by omega, rfl, rfl, ⟨World.ownsRow_nil _ _ _ _, Nat.le_refl _⟩, Below.refl _ _⟩
  case round =>
    obtain ⟨k, u, hk, rfl, rfl, HU, HB⟩ := hrel
    by_cases hkn : k < n
    · have i1 : (k : Int) < (n : Int) := by omega
      have i0 : (0 : Int) ≤ (k : Int) := by omega
      have RK := HR.out.next HB.out
      have c0 := RK.c0 k hkn
      have c1 := RK.c1 k hkn
      have c2 := RK.c2 k hkn
      have c3 := RK.c3 k hkn
      have c4 := RK.c4 k hkn
      have c5 := RK.c5 k hkn
      have BA : Hid (Below wr.heap.size wr (wr.alloc (.cells #[.int .i64 (c.O k), .int .i64 (c.D k), .int .i64 (c.A k), .int .i64 (c.B k), .int .i64 (c.C k), .int .u32 (c.X k)] 40))) := (Below.refl _ _).alloc (Nat.le_refl _) _
      have h71 := vals44 (c.O k) (c.D k) (c.A k) (c.B k) (c.C k) (c.X k) (wr.alloc (.cells #[.int .i64 (c.O k), .int .i64 (c.D k), .int .i64 (c.A k), .int .i64 (c.B k), .int .i64 (c.C k), .int .u32 (c.X k)] 40)) (HX.out k hkn).1 (HX.out k hkn).2
      have HD0 : Hid ((wr.alloc (.cells #[.int .i64 (c.O k), .int .i64 (c.D k), .int .i64 (c.A k), .int .i64 (c.B k), .int .i64 (c.C k), .int .u32 (c.X k)] 40)).cell? ⟨wr.heap.size, 0, none⟩ = some (.int .i64 (c.O k))) := by show _ = _; simp
      have HG : Hid (c.gl (k + 1) = c.gl k ++ tgF (c.O k) (c.D k) (c.A k) (c.B k) (c.C k) (c.X k) 5) := by show _ = _; rw [tgF_5]; rfl
      have HLn : Hid ((c.gl k).length ≤ 1200) := by have := c.gl_len k; show _ ≤ _; omega
      generalize c.gl k = M at HU HG HLn
      generalize c.O k = o at c0 h71 HD0 HG BA
      generalize c.D k = dd at c1 h71 HG BA HD0
      generalize c.A k = aa at c2 h71 HG BA HD0
      generalize c.B k = bb at c3 h71 HG BA HD0
      generalize c.C k = cc at c4 h71 HG BA HD0
      generalize c.X k = xx at c5 h71 HG BA HD0
      clear RK
      go_wp2_with (go_at_call 71; refine h71.mono ?_; rintro e w2 ⟨rfl, B2⟩)
      have HB2 : Hid (Below wr.heap.size wr w2) := BA.out.trans (B2.mono BA.out.size)
      have HD2 : Hid (w2.cell? ⟨wr.heap.size, 0, none⟩ = some (.int .i64 o)) := cell_nx HD0.out B2
      have HUq : Hid (∀ q, u.ownBlock = some q → q < wr.heap.size) := fun q hq => (HU.out.lt q hq).2
      have HU2 : Hid (Ri w.heap.size w2 u (M ++ tgF o dd aa bb cc xx 0)) := by show Ri _ _ _ _; rw [show M ++ tgF o dd aa bb cc xx 0 = M by simp [tgF]]; exact HU.out.next HB2.out
      have HW2 : Hid (Below w.heap.size w w2) := HB.out.trans (HB2.out.mono HB.out.size)
      have hxi := ixiAll dd aa bb cc xx
      obtain ⟨q1, hq1⟩ : ∃ q1, wr.heap.size = q1 := ⟨_, rfl⟩
      have HQ1 : Hid (q1 < w2.heap.size) := by have := World.block_lt_of_cell? _ _ HD2.out; rw [← hq1]; exact this
      have HQu : Hid (∀ q, u.ownBlock = some q → q ≠ q1) := fun q hq => by have := HUq.out q hq; omega
      rw [hq1] at HD2 ⊢
      clear h71 c0 c1 c2 c3 c4 c5 HU HB HB2 BA HD0 B2 hq1 HUq
      go_loopw [3, 16] (fun vv i wx => ∃ (f : Nat) (u : Value), f ≤ 5 ∧ i = .int .i64 f ∧ u = vv ∧ Hid (Ri w.heap.size wx u (M ++ tgF o dd aa bb cc xx f)) ∧ Hid (Below w.heap.size w wx) ∧ Hid (wx.cell? ⟨q1, 0, none⟩ = some (.int .i64 o)) ∧ Hid (∀ q, u.ownBlock = some q → q ≠ q1)) (fun _ i _ => 5 - (intOf i).toNat)
      case atStart => exact ⟨0, _, by omega, rfl, rfl, HU2, HW2, HD2, HQu⟩
      case round =>
        obtain ⟨f, u, hf, rfl, rfl, UF, BF, DF, QF⟩ := hrel
        clear HU2 HW2 HD2 HQu
        by_cases hf5 : f < 5
        · have f5 : (f : Int) < 5 := by omega
          have f0 : (0 : Int) ≤ (f : Int) := by omega
          have hix := fun v => hxi f hf5 v
          have dx := DF.out
          have hn := isnumAll o f hf5 wr
          have HTf : Hid (tgF o dd aa bb cc xx (f + 1) = tgF o dd aa bb cc xx f ++ (if isN o f then [val dd aa bb cc xx f] else [])) := rfl
          have HTl : Hid ((tgF o dd aa bb cc xx f).length ≤ 5) := by have := tgF_len o dd aa bb cc xx f; show _ ≤ _; omega
          clear hxi
          generalize val dd aa bb cc xx f = vf at hix HTf
          cases hN : isN o f
          · rw [hN] at hn HTf
            have UF2 : Hid (Ri w.heap.size wr u (M ++ tgF o dd aa bb cc xx (f + 1))) := by show Ri _ _ _ _; rw [HTf.out, show (if false = true then [vf] else []) = ([] : List Int) by rfl, List.append_nil]; exact UF.out
            clear UF HTf
            go_wp2_with (go_at_call 79; refine hn.mono ?_; rintro e w6 ⟨rfl, hw⟩; subst w6)
            go_roundw
            case rel => exact ⟨f + 1, _, by omega, by go_num, rfl, UF2, BF, DF, QF⟩
            case measure => simp [intOf]; omega
          · rw [hN] at hn HTf
            have HTg : Hid (tgF o dd aa bb cc xx (f + 1) = tgF o dd aa bb cc xx f ++ [vf]) := HTf
            clear HTf
            generalize tgF o dd aa bb cc xx f = Lf at UF HTg HTl
            go_wp2_with (first | (go_at_call 79; refine hn.mono ?_; rintro e w6 ⟨rfl, hw⟩; subst w6) | (at_builtin; refine wpList_append_lies _ rfl _ _ 54 rfl w.heap.size 3 i3 (.int .i64 0) 1 8 Tryd.underlying54 hi3 hz30 hz31 hz32 rfl (by decide) _ _ _ rfl (UF.out.alloc _).1 ⟨_, 0, none⟩ 1 1 [.int .i64 vf] rfl rfl ?_ ?_ (by decide) ?_ ?_ ?_ _ rfl ?_))
            · intro j u hj
              match j, hj with
              | 0, hj => simp at hj; subst hj; simp [Addr.add]
            · intro u hu; simp at hu; subst hu; rfl
            · have := HLn.out; have := HTl.out; simp only [List.length_append]; unfold maxLen; omega
            · have := HLn.out; have := HTl.out; simp only [List.length_append]; omega
            · have := UF.out.2; simp; omega
            intro g3 cp3 w3 hown hgrow hat hlt
            have B3 : Hid (Below w.heap.size w w3) := (BF.out.alloc BF.out.size _).grown hgrow (by have := BF.out.size; simp; omega) (fun q hq => (UF.out.lt q hq).1)
            have U3 : Hid (Ri w.heap.size w3 (.slice (some ⟨g3, 0, none⟩) (M.length + Lf.length + 1) cp3) (M ++ tgF o dd aa bb cc xx (f + 1))) := by
              show Ri _ _ _ _
              rw [HTg.out, ← List.append_assoc]
              refine ⟨?_, B3.out.size⟩
              have hl : (M ++ Lf ++ [vf]).length = M.length + Lf.length + 1 := by simp only [List.length_append, List.length_cons, List.length_nil]
              rw [hl, il_app]
              exact hown
            have hq1l := World.block_lt_of_cell? _ _ dx
            have D3 : Hid (w3.cell? ⟨q1, 0, none⟩ = some (.int .i64 o)) := (hgrow.cell_far ⟨q1, 0, none⟩ (by simp; exact Nat.lt_succ_of_lt hq1l) (fun e => QF.out q1 e.symm rfl)).trans (cell_nx dx ((Below.refl _ _).alloc (Nat.le_refl _) _))
            have Q3 : Hid (∀ q, (Value.slice (some ⟨g3, 0, none⟩) (M.length + Lf.length + 1) cp3).ownBlock = some q → q ≠ q1) := fun q hq => by
              have hq : g3 = q := by simpa [Value.ownBlock] using hq
              subst hq
              rcases hat with e | e
              · exact QF.out _ e
              · simp at e hq1l; omega
            clear hown hgrow hat hlt UF BF DF QF HTg HTl hq1l
            go_wp2
            go_roundw
            case rel => exact ⟨f + 1, _, by omega, by go_num, by first | rfl | simp, U3, B3, D3, Q3⟩
            case measure => simp [intOf]; omega
        · obtain rfl : f = 5 := by omega
          have f5 : ¬ ((5 : Nat) : Int) < 5 := by omega
          have U4 : Hid (Ri w.heap.size wr u (c.gl (k + 1))) := by rw [HG.out]; exact UF
          clear UF DF QF
          go_wp2
          go_roundw
          case rel => exact ⟨k + 1, _, by omega, by go_num, rfl, U4, BF⟩
          case measure => simp [intOf]; omega
    · obtain rfl : k = n := by omega
      have i1 : ¬ (k : Int) < (k : Int) := by omega
      go_wp2
      go_ret
      exact ⟨_, rfl, HU.out.own.row, HB.out⟩
set_option maxRecDepth 100000 in
set_option maxHeartbeats 4000000 in
theorem behind88 (n a cap : Nat) (c : Cd) (w : World) (R : RowI w a n c.O c.D c.A c.B c.C c.X) (n0 : 1 ≤ n) (n1 : n ≤ 600) (hc : n ≤ cap) : Calls Tryd.prog 88 #[.slice (some ⟨a, 0, none⟩) n cap] w fun e w' => ∃ v, e = .returned v ∧ IRow w' v (c.br (n - 1)) ∧ Below w.heap.size w w' := by
  obtain ⟨i3, hi3, hz30, hz31, hz32⟩ := info_parts info3
  obtain ⟨m, rfl⟩ : ∃ m, n = m + 1 := ⟨n - 1, by omega⟩
  have HR : Hid (RowI w a (m + 1) c.O c.D c.A c.B c.C c.X) := R
  have q0 : (0 : Int) ≤ (m : Int) := by omega
  have q1 : (m : Int) ≤ (cap : Int) := by omega
  have q2 : ¬ cap = 0 := by omega
  simp only [Nat.add_sub_cancel]
  clear R
  go_enter Tryd.func88, Tryd.ntmps88
  go_wp2
  go_loopw [3, 12] (fun vv i wr => ∃ (k : Nat) (u : Value), k ≤ m ∧ i = .int .i64 k ∧ u = vv ∧ Hid (Ri w.heap.size wr u (c.br k)) ∧ Hid (Below w.heap.size w wr)) (fun _ i _ => m - (intOf i).toNat)
  case atStart => exact ⟨0, _, by omega, rfl, rfl, ⟨World.ownsRow_nil _ _ _ _, Nat.le_refl _⟩, Below.refl _ _⟩
  case round =>
    obtain ⟨k, u, hk, rfl, rfl, HU, HB⟩ := hrel
    by_cases hkn : k < m
    · have i1 : (k : Int) < (m : Int) := by omega
      have i0 : (0 : Int) ≤ (k : Int) := by omega
      have RK := HR.out.next HB.out
      have c0 := RK.c0 k (by omega)
      have c1 := RK.c1 k (by omega)
      have c2 := RK.c2 k (by omega)
      have c3 := RK.c3 k (by omega)
      have c4 := RK.c4 k (by omega)
      have c5 := RK.c5 k (by omega)
      have BA : Hid (Below w.heap.size w (wr.alloc (.cells #[.int .i64 (c.O k), .int .i64 (c.D k), .int .i64 (c.A k), .int .i64 (c.B k), .int .i64 (c.C k), .int .u32 (c.X k)] 40))) := HB.out.alloc HB.out.size _
      have UA : Hid (Ri w.heap.size (wr.alloc (.cells #[.int .i64 (c.O k), .int .i64 (c.D k), .int .i64 (c.A k), .int .i64 (c.B k), .int .i64 (c.C k), .int .u32 (c.X k)] 40)) u (c.br k)) := HU.out.alloc _
      have HC : Hid (c.br (k + 1) = c.br k ++ (if cutO (c.O k) then [((k + 1 : Nat) : Int)] else [])) := rfl
      have HLn : Hid ((c.br k).length ≤ 600) := by have := c.br_len k; show _ ≤ _; omega
      have HCu : Hid (cutO (c.O k) = (c.O k == 8 || c.O k == 9 || c.O k == 11 || c.O k == 10)) := rfl
      clear RK HU HB
      generalize c.br k = L at UA HC HLn
      generalize c.O k = o at c0 HC HCu BA UA
      have key : (cutO o = true ∧ (o = 8 ∨ o = 9 ∨ o = 11 ∨ o = 10)) ∨ (cutO o = false ∧ o ≠ 8 ∧ o ≠ 9 ∧ o ≠ 11 ∧ o ≠ 10) := by
        rw [HCu.out]
        by_cases e8 : o = 8
        · subst e8; exact Or.inl ⟨rfl, Or.inl rfl⟩
        by_cases e9 : o = 9
        · subst e9; exact Or.inl ⟨rfl, Or.inr (Or.inl rfl)⟩
        by_cases e11 : o = 11
        · subst e11; exact Or.inl ⟨rfl, Or.inr (Or.inr (Or.inl rfl))⟩
        by_cases e10 : o = 10
        · subst e10; exact Or.inl ⟨rfl, Or.inr (Or.inr (Or.inr rfl))⟩
        · exact Or.inr ⟨by simp [e8, e9, e10, e11], e8, e9, e11, e10⟩
      rcases key with ⟨hcu, hoo⟩ | ⟨hcu, e8, e9, e11, e10⟩
      · rw [hcu] at HC
        have HC2 : Hid (c.br (k + 1) = L ++ [((k + 1 : Nat) : Int)]) := HC
        have wk : wrap64 ((k : Int) + 1) = (k : Int) + 1 := by unfold wrap64; omega
        clear hcu HCu HC
        rcases hoo with rfl | rfl | rfl | rfl
        all_goals
          go_wp2_with (at_builtin; refine wpList_append_own _ rfl _ _ 54 rfl w.heap.size 3 i3 (.int .i64 0) 1 8 Tryd.underlying54 hi3 hz30 hz31 hz32 rfl (by decide) _ _ _ rfl (UA.out.alloc _).1 ⟨_, 0, none⟩ 1 1 [.int .i64 ((k : Int) + 1)] rfl rfl ?_ ?_ ?_ ?_ ?_ ?_)
          · intro j u hj
            match j, hj with
            | 0, hj => simp at hj; subst hj; simp [Addr.add]
          · intro u hu; simp at hu; subst hu; rfl
          · have := HLn.out; unfold maxLen; omega
          · have := HLn.out; omega
          · have := BA.out.size; simp at *; omega
          intro v3 w3 hown hgrow _
          have B3 : Hid (Below w.heap.size w w3) := (BA.out.alloc BA.out.size _).grown hgrow (by have := BA.out.size; simp at *; omega) (fun q hq => (UA.out.lt q hq).1)
          have U3 : Hid (Ri w.heap.size w3 v3 (c.br (k + 1))) := by
            show Ri _ _ _ _
            rw [HC2.out]
            refine ⟨?_, B3.out.size⟩
            rw [List.length_append, il_app]
            exact hown
          clear hown hgrow UA BA
          go_wp2
          go_roundw
          case rel => exact ⟨k + 1, _, by omega, by go_num, rfl, U3, B3⟩
          case measure => simp [intOf]; omega
      · rw [hcu] at HC
        have HC2 : Hid (c.br (k + 1) = L) := by have := HC.out; show _ = _; rw [this]; simp
        have f8 : (o == 8) = false := by simp [e8]
        have f9 : (o == 9) = false := by simp [e9]
        have f11 : (o == 11) = false := by simp [e11]
        have f10 : (o == 10) = false := by simp [e10]
        clear hcu HCu HC e8 e9 e10 e11
        go_wp2
        go_roundw
        case rel => exact ⟨k + 1, _, by omega, by go_num, rfl, by rw [HC2.out]; exact UA, BA⟩
        case measure => simp [intOf]; omega
    · obtain rfl : k = m := by omega
      have i1 : ¬ (k : Int) < (k : Int) := by omega
      go_wp2
      go_ret
      exact ⟨_, rfl, HU.out.own.row, HB.out⟩
end Go.Proofs.YtlfgboiejoiboaaDoor
namespace Go.Proofs.YtlfgboiejoiboaaDoor
open Go.ChangeShapes Go.WideShapes Go.ChangeAt Go.RowKit
set_option linter.unusedVariables false
set_option maxRecDepth 100000 in
set_option maxHeartbeats 4000000 in
theorem begins60 (a cap : Nat) (c : Cd) (K : Ok c) (w : World) (R : RowI w a c.n c.O c.D c.A c.B c.C c.X) (hc : c.n ≤ cap) : Calls Tryd.prog 60 #[.slice (some ⟨a, 0, none⟩) c.n cap] w fun e w' => (∃ S, e = .returned (.agg (bits S)) ∧ Hid (∀ i, i < c.n → S i = c.bg i)) ∧ Below w.heap.size w w' := by
  have z44 := zv44
  obtain ⟨W, hW⟩ : ∃ W, w.alloc (.cells (bits fun _ => false) 44) = W := ⟨_, rfl⟩
  have HW : Hid (Own W w.heap.size 600 (fun _ => .bool false)) := by show Own _ _ _ _; rw [← hW]; exact own_vals w _ 600 44
  have HBW : Hid (Below w.heap.size w W) := by show Below _ _ _; rw [← hW]; exact (Below.refl _ _).alloc (Nat.le_refl _) _
  have BA : Hid (Below W.heap.size W (W.alloc (.cells #[.int .i64 0] 3))) := (Below.refl _ _).alloc (Nat.le_refl _) _
  have HI0 : Hid (IRow (W.alloc (.cells #[.int .i64 0] 3)) (.slice (some ⟨W.heap.size, 0, none⟩) 1 1) [0]) := Or.inr ⟨W.heap.size, 1, rfl, by simp, ints_at _ _ rfl [0]⟩
  have H87 : Hid (∀ v, Below w.heap.size w v → Calls Tryd.prog 87 #[.slice (some ⟨a, 0, none⟩) c.n cap] v fun e w' => ∃ u, e = .returned u ∧ IRow w' u (c.gl c.n) ∧ Below v.heap.size v w') := fun v b => goals87 c.n a cap c v (R.next b) K.n1 K.wd
  have H88 : Hid (∀ v, Below w.heap.size w v → Calls Tryd.prog 88 #[.slice (some ⟨a, 0, none⟩) c.n cap] v fun e w' => ∃ u, e = .returned u ∧ IRow w' u (c.br (c.n - 1)) ∧ Below v.heap.size v w') := fun v b => behind88 c.n a cap c v (R.next b) K.n0 K.n1 hc
  have H78 : Hid (∀ v g, Sets v g [[0], c.gl c.n, c.br (c.n - 1)] → Calls Tryd.prog 78 #[.slice (some ⟨g, 0, none⟩) 3 3] v fun e w' => e = .returned (.agg (bits (memB [[0], c.gl c.n, c.br (c.n - 1)].flatten))) ∧ Below v.heap.size v w') := fun v g S => joined78 g 3 3 [[0], c.gl c.n, c.br (c.n - 1)] v rfl S (fun L hL t ht => by
      have n1 := K.n1
      have hL : L = [0] ∨ L = c.gl c.n ∨ L = c.br (c.n - 1) := by simpa using hL
      rcases hL with rfl | rfl | rfl
      · have : t = 0 := by simpa using ht
        omega
      · obtain ⟨i, hi, h⟩ := c.gl_mem t c.n ht
        have hT := K.tgs i hi
        unfold tgL at h
        split at h
        · rename_i e
          have := hT.1 e
          have : t = c.A i := by simpa using h
          omega
        · split at h
          · rename_i e
            have := hT.2 e
            have : t = c.B i ∨ t = c.C i := by simpa using h
            omega
          · cases h
      · have := c.br_mem t _ ht; omega) (by omega) (fun L hL => by
      have n1 := K.n1
      have hL : L = [0] ∨ L = c.gl c.n ∨ L = c.br (c.n - 1) := by simpa using hL
      rcases hL with rfl | rfl | rfl
      · simp
      · have := c.gl_len c.n; omega
      · have := c.br_len (c.n - 1); omega)
  have HE : Hid (∀ i, i < c.n → memB [[0], c.gl c.n, c.br (c.n - 1)].flatten i = c.bg i) := fun i hi => bg_set c i hi
  clear R K
  generalize memB [[0], c.gl c.n, c.br (c.n - 1)].flatten = S at H78 HE
  generalize c.gl c.n = G at H87 H78
  generalize c.br (c.n - 1) = Br at H88 H78
  go_enter Tryd.func60, Tryd.ntmps60
  go_wp2_with (first | (go_at_call 87; refine (H87.out _ (HBW.out.trans (BA.out.mono HBW.out.size))).mono ?_; rintro e w1 ⟨v1, rfl, I1, B1⟩; obtain ⟨ad1, cp1, rfl⟩ := I1.is; have B01 : Below w.heap.size w w1 := (HBW.out.trans (BA.out.mono HBW.out.size)).trans (B1.mono (by have := HBW.out.size; have := BA.out.size; omega))) | (go_at_call 88; refine (H88.out _ B01).mono ?_; rintro e w2 ⟨v2, rfl, I2, B2⟩; obtain ⟨ad2, cp2, rfl⟩ := I2.is) | (go_at_call 78; refine (H78.out _ _ ?_).mono ?_))
  · intro i hi
    have : i = 0 ∨ i = 1 ∨ i = 2 := by simp at hi; omega
    rcases this with rfl | rfl | rfl
    · exact ⟨_, by simp, ((HI0.out.next B1).next B2).next ((Below.refl _ _).alloc (Nat.le_refl _) _)⟩
    · exact ⟨_, by simp, (I1.next B2).next ((Below.refl _ _).alloc (Nat.le_refl _) _)⟩
    · exact ⟨_, by simp, I2.next ((Below.refl _ _).alloc (Nat.le_refl _) _)⟩
  rintro e w3 ⟨rfl, B3⟩
  have BW2 : Below W.heap.size W w2 := (BA.out.trans (B1.mono BA.out.size)).trans (B2.mono (by have := BA.out.size; have := B1.size; omega))
  have BW3 : Below W.heap.size W w3 := (BW2.alloc BW2.size _).trans (B3.mono (by have := BW2.size; simp; omega))
  have HO3 : Hid (Own w3 w.heap.size 600 (fun _ => .bool false)) := HW.out.next BW3
  have HB3 : Hid (Below w.heap.size w w3) := HBW.out.trans (BW3.mono HBW.out.size)
  clear BW2 BW3 B3 I1 I2 B1 B2 hW
  go_wp2_with (refine wpList_store_own rfl 44 _ _ rfl w.heap.size rfl 600 _ _ rfl HO3.out (fun _ => rfl) size44 ?_; intro w4 O4 K4)
  (try simp only [Exit.inBlock, Exit.then])
  exact bodyPost_ret (results_own rfl _ _ w.heap.size 600 _ _ rfl O4 Tryd.underlying44 rfl size44) rfl ⟨⟨S, rfl, HE⟩, HB3.out.trans (K4.below (Nat.le_refl _) HB3.out.size)⟩
set_option maxRecDepth 100000 in
set_option maxHeartbeats 4000000 in
theorem none62 (w : World) : Calls Tryd.prog 62 #[] w fun e w' => e = .returned (.agg (vals (fun r => .int .i64 (r : Int)) 400)) ∧ Below w.heap.size w w' := by
  have z67 := zv67
  have J0 : Hid (Own ((w.alloc (.cells (vals (fun _ => .int .i64 0) 400) 67)).alloc (.cells (vals (fun _ => .int .i64 0) 400) 67)) (w.heap.size + 1) 400 (fun i => .int .i64 (if i < 0 then (i : Int) else 0)) ∧ Own ((w.alloc (.cells (vals (fun _ => .int .i64 0) 400) 67)).alloc (.cells (vals (fun _ => .int .i64 0) 400) 67)) w.heap.size 400 (fun _ => .int .i64 0) ∧ Below w.heap.size w ((w.alloc (.cells (vals (fun _ => .int .i64 0) 400) 67)).alloc (.cells (vals (fun _ => .int .i64 0) 400) 67))) := by
    have O1 := own_vals w (fun _ => .int .i64 0) 400 67
    have O2 := own_vals (w.alloc (.cells (vals (fun _ => .int .i64 0) 400) 67)) (fun _ => .int .i64 0) 400 67
    rw [World.size_alloc] at O2
    exact ⟨O2.mono (Nat.le_refl _) fun i _ => by rw [if_neg (by omega)], O1.next ((Below.refl _ _).alloc (Nat.le_refl _) _), ((Below.refl _ _).alloc (Nat.le_refl _) _).alloc (by simp) _⟩
  go_enter Tryd.func62, Tryd.ntmps62
  go_wp2
  go_loopw [3] (fun i wx => ∃ k : Nat, k ≤ 400 ∧ i = .int .i64 k ∧ Hid (Own wx (w.heap.size + 1) 400 (fun i => .int .i64 (if i < k then (i : Int) else 0)) ∧ Own wx w.heap.size 400 (fun _ => .int .i64 0) ∧ Below w.heap.size w wx)) (fun i _ => 400 - (intOf i).toNat)
  case atStart => exact ⟨0, by omega, rfl, J0⟩
  case round =>
    obtain ⟨k, hk, rfl, HJ⟩ := hrel
    clear J0
    by_cases hkn : k < 400
    · have i1 : (k : Int) < 400 := by omega
      have i0 : (0 : Int) ≤ (k : Int) := by omega
      have ck := HJ.out.1.cell k hkn
      have fk := HJ.out.1.free k
      have HJ2 : Hid (Own (wr.setCell ⟨w.heap.size + 1, k, none⟩ (.int .i64 (k : Int))) (w.heap.size + 1) 400 (fun i => .int .i64 (if i < k + 1 then (i : Int) else 0)) ∧ Own (wr.setCell ⟨w.heap.size + 1, k, none⟩ (.int .i64 (k : Int))) w.heap.size 400 (fun _ => .int .i64 0) ∧ Below w.heap.size w (wr.setCell ⟨w.heap.size + 1, k, none⟩ (.int .i64 (k : Int)))) := ⟨HJ.out.1.set k _ hkn (fun i hi => by
        by_cases e : i = k
        · subst e; rw [if_pos (by omega), if_pos rfl]
        · rw [if_neg e]
          by_cases e2 : i < k
          · rw [if_pos e2, if_pos (by omega)]
          · rw [if_neg e2, if_neg (by omega)]), HJ.out.2.1.but ((Only.refl _ _).setCell _ _) (by omega), HJ.out.2.2.setCell (p := ⟨w.heap.size + 1, k, none⟩) (by show w.heap.size ≤ w.heap.size + 1; omega) _⟩
      rw [if_neg (Nat.lt_irrefl k)] at ck
      clear HJ
      go_wp2
      go_roundw
      case rel => exact ⟨k + 1, by omega, by go_num, HJ2⟩
      case measure => simp [intOf]; omega
    · obtain rfl : k = 400 := by omega
      have i1 : ¬ ((400 : Nat) : Int) < 400 := by omega
      have HE : Hid (Own wr (w.heap.size + 1) 400 (fun i => .int .i64 (i : Int))) := HJ.out.1.mono (Nat.le_refl _) (fun i hi => by rw [if_pos hi])
      go_wp2_with (first | (refine wpList_load_own rfl 67 _ rfl (w.heap.size + 1) rfl 400 _ _ HE.out Tryd.underlying67 rfl size67 ?_) | (refine wpList_store_own rfl 67 _ _ rfl w.heap.size rfl 400 _ _ rfl HJ.out.2.1 (fun _ => rfl) size67 ?_; intro w2 O2 K2))
      (try simp only [Exit.inBlock, Exit.then])
      exact bodyPost_ret (results_own rfl _ _ w.heap.size 400 _ _ rfl O2 Tryd.underlying67 rfl size67) rfl ⟨rfl, HJ.out.2.2.trans (K2.below (Nat.le_refl _) HJ.out.2.2.size)⟩
/-- What a written register leaves of the copies. -/
def fgF (F : Nat → Int) (d : Int) (r : Nat) : Int := if r = d.toNat ∨ F r = d then (r : Int) else F r
set_option maxRecDepth 100000 in
set_option maxHeartbeats 4000000 in
theorem forget89 (q : Nat) (F : Nat → Int) (d : Int) (w : World) (d0 : 0 ≤ d) (OS : Own w q 400 (fun r => .int .i64 (F r))) : Calls Tryd.prog 89 #[.pointer (some ⟨q, 0, none⟩), .int .i64 d] w fun e w' => e = .returned (.tuple #[]) ∧ Own w' q 400 (fun r => .int .i64 (fgF F d r)) ∧ Only q w w' := by
  have J0 : Hid (Own w q 400 (fun r => .int .i64 (if r < 0 then fgF F d r else F r))) := OS.mono (Nat.le_refl _) fun i _ => by rw [if_neg (by omega)]
  clear OS
  go_enter Tryd.func89, Tryd.ntmps89
  go_wp2
  go_loopw [7] (fun i wx => ∃ k : Nat, k ≤ 400 ∧ i = .int .i64 k ∧ Hid (Own wx q 400 (fun r => .int .i64 (if r < k then fgF F d r else F r))) ∧ Hid (Only q w wx)) (fun i _ => 400 - (intOf i).toNat)
  case atStart => exact ⟨0, by omega, rfl, J0, Only.refl _ _⟩
  case round =>
    obtain ⟨k, hk, rfl, HJ, HO⟩ := hrel
    clear J0
    by_cases hkn : k < 400
    · have i1 : (k : Int) < 400 := by omega
      have i0 : (0 : Int) ≤ (k : Int) := by omega
      have ck := HJ.out.cell k hkn
      have fk := HJ.out.free k
      rw [if_neg (Nat.lt_irrefl k)] at ck
      have HG : Hid (fgF F d k = if k = d.toNat ∨ F k = d then (k : Int) else F k) := rfl
      have HStep : Hid (∀ i, i ≠ k → (if i < k + 1 then fgF F d i else F i) = (if i < k then fgF F d i else F i)) := fun i hi => by
        by_cases e : i < k
        · rw [if_pos e, if_pos (by omega)]
        · rw [if_neg e, if_neg (by omega)]
      have HSame : Hid (fgF F d k = F k → ∀ nq, Own (wr.drewN nq) q 400 (fun r => .int .i64 (if r < k + 1 then fgF F d r else F r))) := fun h nq => (HJ.out.drewN nq).mono (Nat.le_refl _) (fun i hi => by
        by_cases e : i = k
        · subst e; rw [if_pos (by omega), if_neg (Nat.lt_irrefl i), h]
        · rw [HStep.out i e])
      have HPut : Hid (fgF F d k = (k : Int) → ∀ nq, Own ((wr.drewN nq).setCell ⟨q, k, none⟩ (.int .i64 (k : Int))) q 400 (fun r => .int .i64 (if r < k + 1 then fgF F d r else F r))) := fun h nq => (HJ.out.drewN nq).set k _ hkn (fun i hi => by
        by_cases e : i = k
        · subst e; rw [if_pos (by omega), if_pos rfl, h]
        · rw [HStep.out i e, if_neg e])
      have HOd : Hid (∀ nq, Only q w (wr.drewN nq)) := fun nq => HO.out.drewN nq
      have HOp : Hid (∀ nq, Only q w ((wr.drewN nq).setCell ⟨q, k, none⟩ (.int .i64 (k : Int)))) := fun nq => (HO.out.drewN nq).setCell _ _
      generalize fgF F d k = gk at HG HSame HPut
      generalize F k = fk' at ck HG HSame
      clear HJ HO HStep
      by_cases e1 : (k : Int) = d
      · have hg : gk = (k : Int) := by rw [HG.out, if_pos (Or.inl (by omega))]
        have O2 : Hid _ := HPut.out hg
        have g1 : ((k : Int) == d) = true := by simp [e1]
        subst hg
        clear HG HSame HPut e1
        go_wp2
        go_quiet (fail)
        go_wp2
        go_roundw
        case rel => exact ⟨k + 1, by omega, by go_num, O2.out _, HOp.out _⟩
        case measure => simp [intOf]; omega
      · have g1 : ((k : Int) == d) = false := by simp [e1]
        by_cases e2 : fk' = d
        · have hg : gk = (k : Int) := by rw [HG.out, if_pos (Or.inr e2)]
          have O2 : Hid _ := HPut.out hg
          have g2 : (fk' == d) = true := by simp [e2]
          subst hg
          clear HG HSame HPut e1 e2
          go_wp2
          go_quiet (fail)
          go_wp2
          go_roundw
          case rel => exact ⟨k + 1, by omega, by go_num, O2.out _, HOp.out _⟩
          case measure => simp [intOf]; omega
        · have hg : gk = fk' := by rw [HG.out, if_neg (by omega)]
          have O2 : Hid _ := HSame.out hg
          have g2 : (fk' == d) = false := by simp [e2]
          clear HG HSame HPut hg e1 e2
          go_wp2
          go_quiet (fail)
          go_wp2
          go_roundw
          case rel => exact ⟨k + 1, by omega, by go_num, O2.out _, HOd.out _⟩
          case measure => simp [intOf]; omega
    · obtain rfl : k = 400 := by omega
      have i1 : ¬ ((400 : Nat) : Int) < 400 := by omega
      have HE : Hid (Own wr q 400 (fun r => .int .i64 (fgF F d r))) := HJ.out.mono (Nat.le_refl _) (fun i hi => by rw [if_pos hi])
      go_wp2
      first | go_end0 | refine bodyPost_ret (results_none rfl _ _ _) rfl ?_
      exact ⟨rfl, HE.out, HO.out⟩
end Go.Proofs.YtlfgboiejoiboaaDoor
namespace Go.Proofs.YtlfgboiejoiboaaDoor
open Go.ChangeShapes Go.WideShapes Go.ChangeAt Go.RowKit
set_option linter.unusedVariables false
/-- The cells of an instruction. -/
def insV (o d a b c x : Int) : Nat → Value
  | 0 => .int .i64 o
  | 1 => .int .i64 d
  | 2 => .int .i64 a
  | 3 => .int .i64 b
  | 4 => .int .i64 c
  | _ => .int .u32 x
theorem insV_one (o d a b c x : Int) (i : Nat) : (insV o d a b c x i).oneCell' = true := by
  unfold insV
  split <;> rfl
theorem size40 : (Tryd.prog.info? 40).map (·.size) = some 6 := by kernel_rfl
theorem size74 : (Tryd.prog.info? 74).map (·.size) = some 5 := by kernel_rfl
theorem own_arr (w : World) (f : Nat → Value) (n : Nat) (cs : Array Value) (t : TypeId) (H : Nat) (hH : w.heap.size = H) (hc : vals f n = cs) : Own (w.alloc (.cells cs t)) H n f := by
  subst hH hc
  exact own_vals w f n t
theorem ins6 (o d a b c x : Int) : vals (insV o d a b c x) 6 = #[.int .i64 o, .int .i64 d, .int .i64 a, .int .i64 b, .int .i64 c, .int .u32 x] := rfl
theorem ints5 (f : Nat → Int) : vals (fun i => .int .i64 (f i)) 5 = #[.int .i64 (f 0), .int .i64 (f 1), .int .i64 (f 2), .int .i64 (f 3), .int .i64 (f 4)] := rfl
theorem only_far {q p : Nat} {w v v' : World} (h : Only q w v) (k : Only p v v') (hp : w.heap.size ≤ p) : Only q w v' :=
  ⟨k.os.trans h.os, k.tape.trans h.tape, k.output.trans h.output, Nat.le_trans h.size k.size, fun i hi hq => (k.block i (by have := h.size; omega) (by omega)).trans (h.block i hi hq)⟩
theorem val_ops (o d a b c x : Int) (j : Nat) (h : j < kN o x) : (opsL o a b c x).getD j 0 = val d a b c x (1 + j) := by
  rw [opsL_take]
  have hk := kN_le o x
  have e : ([a, b, c].take (kN o x)).getD j 0 = [a, b, c].getD j 0 := by
    rw [List.getD_eq_getElem?_getD, List.getD_eq_getElem?_getD, List.getElem?_take_of_lt h]
  rw [e]
  rcases (by omega : j = 0 ∨ j = 1 ∨ j = 2) with rfl | rfl | rfl <;> rfl
/-- The fields once the first j reads are followed. -/
def flV (F : Nat → Int) (d a b c x : Int) (j f : Nat) : Int := if 1 ≤ f ∧ f < 1 + j then F (val d a b c x f).toNat else val d a b c x f
theorem flV_next (F : Nat → Int) (d a b c x : Int) (j f : Nat) : flV F d a b c x (j + 1) f = if f = 1 + j then F (val d a b c x (1 + j)).toNat else flV F d a b c x j f := by
  unfold flV
  by_cases e : f = 1 + j
  · subst e; rw [if_pos (by omega), if_pos rfl]
  · rw [if_neg e]
    by_cases e2 : 1 ≤ f ∧ f < 1 + j
    · rw [if_pos e2, if_pos (by omega)]
    · rw [if_neg e2, if_neg (by omega)]
theorem flV_mv (F : Nat → Int) (d a b c x : Int) (j i : Nat) : flV F d a b c x j (1 + i) = mvV F j i (val d a b c x (1 + i)) := by
  unfold flV mvV
  by_cases e : i < j
  · rw [if_pos (by omega), if_pos e]
  · rw [if_neg (by omega), if_neg e]
theorem mvS_none {F : Nat → Int} {o d a : Int} (h : nmd o 0 = false) : mvS F o d a = F := by funext r; unfold mvS; rw [h]; rfl
theorem mvS_fg {F : Nat → Int} {o d a : Int} (h : nmd o 0 = true) (h2 : o ≠ 2) (d0 : 0 ≤ d) : mvS F o d a = fgF F d := by
  funext r
  unfold mvS fgF
  rw [h, if_pos rfl, if_neg h2]
  by_cases e : r = d.toNat
  · rw [if_pos e, if_pos (Or.inl e)]; omega
  · rw [if_neg e]
    by_cases e2 : F r = d
    · rw [if_pos e2, if_pos (Or.inr e2)]
    · rw [if_neg e2, if_neg (by omega)]
theorem mvS_mv {F : Nat → Int} {d a : Int} (r : Nat) : mvS F 2 d a r = if r = d.toNat then a else fgF F d r := by
  unfold mvS fgF
  rw [show nmd 2 0 = true by rfl, if_pos rfl, if_pos rfl]
  by_cases e : r = d.toNat
  · rw [if_pos e, if_pos e]
  · rw [if_neg e, if_neg e]
    by_cases e2 : F r = d
    · rw [if_pos e2, if_pos (Or.inr e2)]
    · rw [if_neg e2, if_neg (by omega)]
set_option maxRecDepth 100000 in
set_option maxHeartbeats 8000000 in
theorem followed63 (q : Nat) (F : Nat → Int) (o d a b c x : Int) (w : World) (G : Forms w) (OS : Own w q 400 (fun r => .int .i64 (F r))) (x0 : 0 ≤ x) (x1 : x < 4294967296) (ho : 1 ≤ o ∧ o ≤ 13) (h4 : o = 4 → 1 ≤ ar (calW x)) (hr : ∀ y, y ∈ opsL o a b c x → 0 ≤ y ∧ y < 400) (d0 : 0 ≤ d) (d1 : d < 400) : Calls Tryd.prog 63 #[.pointer (some ⟨q, 0, none⟩), .agg #[.int .i64 o, .int .i64 d, .int .i64 a, .int .i64 b, .int .i64 c, .int .u32 x]] w fun e w' => e = .returned (.agg #[.int .i64 o, .int .i64 d, .int .i64 (mvV F (kN o x) 0 a), .int .i64 (mvV F (kN o x) 1 b), .int .i64 (mvV F (kN o x) 2 c), .int .u32 x]) ∧ Own w' q 400 (fun r => .int .i64 (mvS F o d (mvV F (kN o x) 0 a) r)) ∧ Only q w w' := by
  have HQ0 : q < w.heap.size := OS.hi
  obtain ⟨W, hW⟩ : ∃ W, (w.alloc (.cells #[.int .i64 o, .int .i64 d, .int .i64 a, .int .i64 b, .int .i64 c, .int .u32 x] 40)).alloc (.cells #[.int .i64 0, .int .i64 0, .int .i64 0, .int .i64 0, .int .i64 0, .int .u32 0] 40) = W := ⟨_, rfl⟩
  obtain ⟨q3, hq3⟩ : ∃ q3, w.heap.size = q3 := ⟨_, rfl⟩
  have HQ : Hid (q < q3) := by show _ < _; rw [← hq3]; exact HQ0
  clear HQ0
  have hWs : W.heap.size = q3 + 2 := by rw [← hW, ← hq3]; simp
  have HBW : Hid (Below w.heap.size w W) := by show Below _ _ _; rw [← hW]; exact ((Below.refl _ _).alloc (Nat.le_refl _) _).alloc (by simp) _
  have OI : Hid (Own W q3 6 (insV o d a b c x)) := by
    have h := own_arr w (insV o d a b c x) 6 #[.int .i64 o, .int .i64 d, .int .i64 a, .int .i64 b, .int .i64 c, .int .u32 x] 40 q3 hq3 rfl
    have h2 := h.next (w' := W) (by rw [← hW]; exact (Below.refl _ _).alloc (Nat.le_refl _) _)
    exact h2
  have OZ : Hid (Own W (q3 + 1) 6 (insV 0 0 0 0 0 0)) := by
    have h := own_arr (w.alloc (.cells #[.int .i64 o, .int .i64 d, .int .i64 a, .int .i64 b, .int .i64 c, .int .u32 x] 40)) (insV 0 0 0 0 0 0) 6 #[.int .i64 0, .int .i64 0, .int .i64 0, .int .i64 0, .int .i64 0, .int .u32 0] 40 (q3 + 1) (by simp [hq3]) rfl
    rw [hW] at h
    exact h
  have OSW : Hid (Own W q 400 (fun r => .int .i64 (F r))) := OS.next HBW.out
  have HFW : Hid (∀ v, Below W.heap.size W v → Forms v) := fun v k => (G.below HBW.out).below k
  have h71 := vals44 o d a b c x W x0 x1
  have H83 : Hid (∀ v, Forms v → Calls Tryd.prog 83 #[.agg #[.int .i64 o, .int .i64 d, .int .i64 a, .int .i64 b, .int .i64 c, .int .u32 x]] v fun e w' => ∃ u, e = .returned u ∧ IOwn v.heap.size w' u (opsL o a b c x) ∧ Below v.heap.size v w') := fun v g => operands38 o d a b c x v g x0 x1 ho h4
  have HLk : Hid ((opsL o a b c x).length = kN o x) := opsL_kN o a b c x
  have HLv : Hid (∀ j, j < kN o x → (opsL o a b c x).getD j 0 = val d a b c x (1 + j) ∧ 0 ≤ val d a b c x (1 + j) ∧ val d a b c x (1 + j) < 400) := fun j hj => by
    have e := val_ops o d a b c x j hj
    have hl : j < (opsL o a b c x).length := by rw [opsL_kN]; exact hj
    refine ⟨e, ?_⟩
    rw [← e]
    exact hr _ (by simp [List.getD, hl])
  have hk3 := kN_le o x
  have HM : Hid (∀ i v, mvV F (kN o x) i v = if i < kN o x then F v.toNat else v) := fun i v => rfl
  clear OS G hr h4 ho
  generalize opsL o a b c x = L at H83 HLk HLv
  generalize kN o x = kn at HLk HLv hk3 HM ⊢
  go_enter Tryd.func63, Tryd.ntmps63
  go_wp2_with (first | (refine wpList_load_own rfl 40 _ rfl q3 rfl 6 (insV o d a b c x) _ (by first | exact OI.out | exact OI3) Tryd.underlying40 rfl size40 ?_; simp only [ins6]) | (go_at_call 71; refine h71.mono ?_; rintro e w2 ⟨rfl, B2⟩; have BAl : Below w2.heap.size w2 (w2.alloc (.cells #[.int .i64 d, .int .i64 a, .int .i64 b, .int .i64 c, .int .i64 x] 74)) := (Below.refl _ _).alloc (Nat.le_refl _) _; have B23 : Below W.heap.size W (w2.alloc (.cells #[.int .i64 d, .int .i64 a, .int .i64 b, .int .i64 c, .int .i64 x] 74)) := B2.trans (BAl.mono B2.size); have OI3 : Own (w2.alloc (.cells #[.int .i64 d, .int .i64 a, .int .i64 b, .int .i64 c, .int .i64 x] 74)) q3 6 (insV o d a b c x) := OI.out.next B23) | (go_at_call 83; refine (H83.out _ (HFW.out _ B23)).mono ?_; rintro e w4 ⟨v4, rfl, I4, B4⟩; obtain ⟨ad4, cp4, rfl⟩ := I4.row.is))
  obtain ⟨q5, hq5⟩ : ∃ q5, w2.heap.size = q5 := ⟨_, rfl⟩
  have HS5 : Hid (q3 + 2 ≤ q5) := by have := B2.size; show _ ≤ _; omega
  have O5 : Hid (Own w4 q5 5 (fun f => .int .i64 (flV F d a b c x 0 f))) := by
    have h : Own (w2.alloc (.cells #[.int .i64 d, .int .i64 a, .int .i64 b, .int .i64 c, .int .i64 x] 74)) q5 5 (fun f => .int .i64 (flV F d a b c x 0 f)) := own_arr w2 _ 5 _ 74 q5 hq5 rfl
    exact h.next B4
  have BW4 : Hid (Below W.heap.size W w4) := B23.trans (B4.mono (by have := B23.size; omega))
  have HI4 : Hid (IOwn (q5 + 1) w4 (.slice ad4 L.length cp4) L) := by
    rcases I4 with h | ⟨g, cc, h1, h2, h3, h5⟩
    · exact Or.inl h
    · exact Or.inr ⟨g, cc, h1, h2, by simp at h3; omega, h5⟩
  rw [hq5]
  clear h71 H83 B2 BAl B23 OI3 I4 B4 hW hq5
  have HWs : Hid (W.heap.size = q3 + 2) := hWs
  clear hWs
  rw [HLk.out] at HI4 ⊢
  go_loopw [13] (fun i wx => ∃ j : Nat, j ≤ kn ∧ i = .int .i64 j ∧ Hid (Own wx q5 5 (fun f => .int .i64 (flV F d a b c x j f))) ∧ Hid (Only q5 w4 wx)) (fun i _ => kn - (intOf i).toNat)
  case atStart => exact ⟨0, by omega, rfl, O5, Only.refl _ _⟩
  case round =>
    obtain ⟨j, hj, rfl, OJ, KJ⟩ := hrel
    clear O5
    by_cases hjk : j < kn
    · have j1 : (j : Int) < (kn : Int) := by omega
      have j0 : (0 : Int) ≤ (j : Int) := by omega
      have j5 : (1 : Int) + (j : Int) < 5 := by omega
      have wj : wrap64 (1 + (j : Int)) = 1 + (j : Int) := by unfold wrap64; omega
      have tj : (1 + (j : Int)).toNat = 1 + j := by omega
      have p0 : (0 : Int) ≤ 1 + (j : Int) := by omega
      obtain ⟨e, t0, t1⟩ := HLv.out j hjk
      have hjL : j < L.length := by rw [HLk.out]; exact hjk
      rcases HI4.out with ⟨h0, _⟩ | ⟨g, cc, hv, h1, h2, h3⟩
      · rw [h0] at hjL; simp at hjL
      injection hv with hv1 hv2 hv3
      subst hv1 hv3
      have cj := only_cell KJ.out (h3.cell j hjL) (by omega)
      rw [e] at cj
      have HNx : Hid (∀ f, flV F d a b c x (j + 1) f = if f = 1 + j then F (val d a b c x (1 + j)).toNat else flV F d a b c x j f) := flV_next F d a b c x j
      generalize val d a b c x (1 + j) = t at cj t0 t1 HNx
      have ct := only_cell KJ.out (cell_nx (OSW.out.cell t.toNat (by omega)) BW4.out) (by have := HQ.out; have := HS5.out; omega)
      have fj := OJ.out.free (1 + j)
      obtain ⟨z0, hz0⟩ : ∃ z0, wr.cell? ⟨q5, 1 + j, none⟩ = some (.int .i64 z0) := ⟨_, OJ.out.cell (1 + j) (by omega)⟩
      have O2 : Hid (Own (wr.setCell ⟨q5, 1 + j, none⟩ (.int .i64 (F t.toNat))) q5 5 (fun f => .int .i64 (flV F d a b c x (j + 1) f))) := OJ.out.set (1 + j) _ (by omega) (fun f hf => by
        rw [HNx.out]
        by_cases e : f = 1 + j
        · rw [if_pos e, if_pos e]
        · rw [if_neg e, if_neg e])
      have K2 : Hid (Only q5 w4 (wr.setCell ⟨q5, 1 + j, none⟩ (.int .i64 (F t.toNat)))) := KJ.out.setCell _ _
      generalize F t.toNat = ft at ct O2 K2
      clear OJ KJ HNx e h1 h3 hjL
      go_wp2
      go_roundw
      case rel => exact ⟨j + 1, by omega, by go_num, O2, K2⟩
      case measure => simp [intOf]; omega
    · obtain rfl : j = kn := by omega
      have j1 : ¬ (j : Int) < (j : Int) := by omega
      obtain ⟨U, rfl⟩ : ∃ U, U = wr := ⟨_, rfl⟩
      have e0 : flV F d a b c x j 0 = d := by unfold flV; rw [if_neg (by omega)]; rfl
      have e1 : flV F d a b c x j 1 = mvV F j 0 a := flV_mv F d a b c x j 0
      have e2 : flV F d a b c x j 2 = mvV F j 1 b := flV_mv F d a b c x j 1
      have e3 : flV F d a b c x j 3 = mvV F j 2 c := flV_mv F d a b c x j 2
      have e4 : flV F d a b c x j 4 = x := by unfold flV; rw [if_neg (by omega)]; rfl
      have HE5 : Hid (vals (fun f => .int .i64 (flV F d a b c x j f)) 5 = #[.int .i64 d, .int .i64 (mvV F j 0 a), .int .i64 (mvV F j 1 b), .int .i64 (mvV F j 2 c), .int .i64 x]) := by show _ = _; rw [ints5, e0, e1, e2, e3, e4]
      have OIU : Hid (Own U q3 6 (insV o d a b c x)) := (OI.out.next BW4.out).but KJ.out (by have := HS5.out; omega)
      have OZU : Hid (Own U (q3 + 1) 6 (insV 0 0 0 0 0 0)) := (OZ.out.next BW4.out).but KJ.out (by have := HS5.out; omega)
      have OSU : Hid (Own U q 400 (fun r => .int .i64 (F r))) := (OSW.out.next BW4.out).but KJ.out (by have := HQ.out; have := HS5.out; omega)
      have HUs : Hid (W.heap.size ≤ U.heap.size) := by have := BW4.out.size; have := KJ.out.size; show _ ≤ _; omega
      have KU : Hid (Only q w U) := by
        have b1 : Below w.heap.size w w4 := HBW.out.trans (BW4.out.mono HBW.out.size)
        have b2 : Below w.heap.size w4 U := KJ.out.below (by have := HS5.out; omega) b1.size
        exact Only.ofBelow (b1.trans b2)
      have HLE : Hid (w.heap.size ≤ q3) := Nat.le_of_eq hq3
      have dx : U.cell? ⟨q3, 0, none⟩ = some (.int .i64 o) := OIU.out.cell 0 (by omega)
      obtain ⟨ma, hma⟩ : ∃ ma, mvV F j 0 a = ma := ⟨_, rfl⟩
      obtain ⟨mb, hmb⟩ : ∃ mb, mvV F j 1 b = mb := ⟨_, rfl⟩
      obtain ⟨mc, hmc⟩ : ∃ mc, mvV F j 2 c = mc := ⟨_, rfl⟩
      rw [hma, hmb, hmc] at HE5
      have HMa : Hid (mvV F j 0 a = ma) := hma
      have HMb : Hid (mvV F j 1 b = mb) := hmb
      have HMc : Hid (mvV F j 2 c = mc) := hmc
      have h80 := instr80 o d ma mb mc x U x0 x1
      clear e0 e1 e2 e3 e4 HI4 HLv HLk OI OZ OSW HFW BW4 KJ HM hma hmb hmc hq3 HBW HWs HUs
      cases hnm : nmd o 0
      · have h2 : (o == 2) = false := by
          by_cases e : o = 2
          · subst e; cases hnm
          · simp [e]
        have HS : Hid (mvS F o d ma = F) := mvS_none hnm
        go_wp2_with (first | (refine wpList_load_own rfl 74 _ rfl q5 rfl 5 _ _ OJ.out Tryd.underlying74 rfl size74 ?_; simp only [HE5.out]) | (go_at_call 80; refine h80.mono ?_; rintro e w6 ⟨rfl, B6⟩) | (refine wpList_store_own rfl 40 _ _ rfl q3 rfl 6 _ (insV o d ma mb mc x) rfl (OIU.out.next B6) (insV_one o d ma mb mc x) size40 ?_; intro w7 O7 K7; have y0 : w7.cell? ⟨q3, 0, none⟩ = some (.int .i64 o) := O7.cell 0 (by omega); have h85 := writes85 o w7; rw [hnm] at h85) | (go_at_call 85; refine h85.mono ?_; rintro e w8 ⟨rfl, B8⟩; have OZ8 : Own w8 (q3 + 1) 6 (insV 0 0 0 0 0 0) := ((OZU.out.next B6).but K7 (by omega)).next B8; have OS8 : Own w8 q 400 (fun r => .int .i64 (F r)) := ((OSU.out.next B6).but K7 (by have := HQ.out; omega)).next B8; have OI8 : Own w8 q3 6 (insV o d ma mb mc x) := O7.next B8; have s0 : w8.cell? ⟨q3, 0, none⟩ = some (.int .i64 o) := OI8.cell 0 (by omega); have s1 : w8.cell? ⟨q3, 1, none⟩ = some (.int .i64 d) := OI8.cell 1 (by omega); have K8 : Only q w w8 := (only_far (KU.out.trans (Only.ofBelow B6)) K7 HLE.out).trans (Only.ofBelow B8); have HOI8 : Hid (Own w8 q3 6 (insV o d ma mb mc x)) := OI8; have HOZ8 : Hid (Own w8 (q3 + 1) 6 (insV 0 0 0 0 0 0)) := OZ8; have HOS8 : Hid (Own w8 q 400 (fun r => .int .i64 (F r))) := OS8; have HK8 : Hid (Only q w w8) := K8; clear B6 K7 O7 B8 y0 OZ8 OS8 OI8 K8 h85) | (refine wpList_load_own rfl 40 _ rfl q3 rfl 6 _ _ HOI8.out Tryd.underlying40 rfl size40 ?_; simp only [ins6]) | (refine wpList_store_own rfl 40 _ _ rfl (q3 + 1) rfl 6 _ (insV o d ma mb mc x) rfl HOZ8.out (insV_one o d ma mb mc x) size40 ?_; intro w10 O10 K10))
        (try simp only [Exit.inBlock, Exit.then])
        exact bodyPost_ret (results_own rfl _ _ (q3 + 1) 6 _ _ rfl O10 Tryd.underlying40 rfl size40) rfl ⟨by rw [ins6, HMa.out, HMb.out, HMc.out], by rw [HMa.out, HS.out]; exact HOS8.out.but K10 (by have := HQ.out; omega), only_far HK8.out K10 (by have := HLE.out; omega)⟩
      · by_cases e2 : o = 2
        · subst e2
          have HS : Hid (∀ r, mvS F 2 d ma r = if r = d.toNat then ma else fgF F d r) := fun r => mvS_mv r
          go_wp2_with (first | (refine wpList_load_own rfl 74 _ rfl q5 rfl 5 _ _ OJ.out Tryd.underlying74 rfl size74 ?_; simp only [HE5.out]) | (go_at_call 80; refine h80.mono ?_; rintro e w6 ⟨rfl, B6⟩) | (refine wpList_store_own rfl 40 _ _ rfl q3 rfl 6 _ (insV 2 d ma mb mc x) rfl (OIU.out.next B6) (insV_one 2 d ma mb mc x) size40 ?_; intro w7 O7 K7; have y0 : w7.cell? ⟨q3, 0, none⟩ = some (.int .i64 2) := O7.cell 0 (by omega); have h85 := writes85 2 w7; rw [hnm] at h85) | (go_at_call 85; refine h85.mono ?_; rintro e w8 ⟨rfl, B8⟩; have OZ8 : Own w8 (q3 + 1) 6 (insV 0 0 0 0 0 0) := ((OZU.out.next B6).but K7 (by omega)).next B8; have OS8 : Own w8 q 400 (fun r => .int .i64 (F r)) := ((OSU.out.next B6).but K7 (by have := HQ.out; omega)).next B8; have OI8 : Own w8 q3 6 (insV 2 d ma mb mc x) := O7.next B8; have s0 : w8.cell? ⟨q3, 0, none⟩ = some (.int .i64 2) := OI8.cell 0 (by omega); have s1 : w8.cell? ⟨q3, 1, none⟩ = some (.int .i64 d) := OI8.cell 1 (by omega); have K8 : Only q w w8 := (only_far (KU.out.trans (Only.ofBelow B6)) K7 HLE.out).trans (Only.ofBelow B8); have HOI8 : Hid (Own w8 q3 6 (insV 2 d ma mb mc x)) := OI8; have HOZ8 : Hid (Own w8 (q3 + 1) 6 (insV 0 0 0 0 0 0)) := OZ8; have HOS8 : Hid (Own w8 q 400 (fun r => .int .i64 (F r))) := OS8; have HK8 : Hid (Only q w w8) := K8; clear B6 K7 O7 B8 y0 OZ8 OS8 OI8 K8 h85) | (go_at_call 89; refine (forget89 q F d w8 d0 HOS8.out).mono ?_; rintro e w9 ⟨rfl, O9, K9⟩; have HOI9 : Hid (Own w9 q3 6 (insV 2 d ma mb mc x)) := HOI8.out.but K9 (by have := HQ.out; omega); have HOZ9 : Hid (Own w9 (q3 + 1) 6 (insV 0 0 0 0 0 0)) := HOZ8.out.but K9 (by have := HQ.out; omega); have HOS9 : Hid (Own w9 q 400 (fun r => .int .i64 (fgF F d r))) := O9; have HK9 : Hid (Only q w w9) := HK8.out.trans K9; have t0 : w9.cell? ⟨q3, 0, none⟩ = some (.int .i64 2) := HOI9.out.cell 0 (by omega); have t1 : w9.cell? ⟨q3, 1, none⟩ = some (.int .i64 d) := HOI9.out.cell 1 (by omega); have t2 : w9.cell? ⟨q3, 2, none⟩ = some (.int .i64 ma) := HOI9.out.cell 2 (by omega); clear O9 K9 s0 s1))
          have ct := HOS9.out.cell d.toNat (by omega)
          have ft := HOS9.out.free d.toNat
          obtain ⟨w10, hw10⟩ : ∃ w10, (w9.setCell ⟨q, d.toNat, none⟩ (.int .i64 ma)).drew = w10 := ⟨_, rfl⟩
          have OW : Hid (Own w10 q 400 (fun r => .int .i64 (mvS F 2 d ma r))) := by
            show Own _ _ _ _
            rw [← hw10]
            exact (HOS9.out.set (g := fun r => .int .i64 (mvS F 2 d ma r)) d.toNat (.int .i64 ma) (by omega) (fun r hr => by
              rw [HS.out]
              by_cases e : r = d.toNat
              · rw [if_pos e, if_pos e]
              · rw [if_neg e, if_neg e])).drew
          have KW : Only q w9 w10 := by rw [← hw10]; exact ((Only.refl q w9).setCell _ _).drew
          have HOI10 : Hid (Own w10 q3 6 (insV 2 d ma mb mc x)) := HOI9.out.but KW (by have := HQ.out; omega)
          have HOZ10 : Hid (Own w10 (q3 + 1) 6 (insV 0 0 0 0 0 0)) := HOZ9.out.but KW (by have := HQ.out; omega)
          have HK10 : Hid (Only q w w10) := HK9.out.trans KW
          clear KW
          go_region
          all_goals
            (try rw [hw10])
            clear hw10
            go_wp2_with (first | (refine wpList_load_own rfl 40 _ rfl q3 rfl 6 _ _ HOI10.out Tryd.underlying40 rfl size40 ?_; simp only [ins6]) | (refine wpList_store_own rfl 40 _ _ rfl (q3 + 1) rfl 6 _ (insV 2 d ma mb mc x) rfl HOZ10.out (insV_one 2 d ma mb mc x) size40 ?_; intro w11 O11 K11))
            (try simp only [Exit.inBlock, Exit.then])
            exact bodyPost_ret (results_own rfl _ _ (q3 + 1) 6 _ _ rfl O11 Tryd.underlying40 rfl size40) rfl ⟨by rw [ins6, HMa.out, HMb.out, HMc.out], by rw [HMa.out]; exact OW.out.but K11 (by have := HQ.out; omega), only_far HK10.out K11 (by have := HLE.out; omega)⟩
        · have h2 : (o == 2) = false := by simp [e2]
          have HS : Hid (mvS F o d ma = fgF F d) := mvS_fg hnm e2 d0
          clear e2
          go_wp2_with (first | (refine wpList_load_own rfl 74 _ rfl q5 rfl 5 _ _ OJ.out Tryd.underlying74 rfl size74 ?_; simp only [HE5.out]) | (go_at_call 80; refine h80.mono ?_; rintro e w6 ⟨rfl, B6⟩) | (refine wpList_store_own rfl 40 _ _ rfl q3 rfl 6 _ (insV o d ma mb mc x) rfl (OIU.out.next B6) (insV_one o d ma mb mc x) size40 ?_; intro w7 O7 K7; have y0 : w7.cell? ⟨q3, 0, none⟩ = some (.int .i64 o) := O7.cell 0 (by omega); have h85 := writes85 o w7; rw [hnm] at h85) | (go_at_call 85; refine h85.mono ?_; rintro e w8 ⟨rfl, B8⟩; have OZ8 : Own w8 (q3 + 1) 6 (insV 0 0 0 0 0 0) := ((OZU.out.next B6).but K7 (by omega)).next B8; have OS8 : Own w8 q 400 (fun r => .int .i64 (F r)) := ((OSU.out.next B6).but K7 (by have := HQ.out; omega)).next B8; have OI8 : Own w8 q3 6 (insV o d ma mb mc x) := O7.next B8; have s0 : w8.cell? ⟨q3, 0, none⟩ = some (.int .i64 o) := OI8.cell 0 (by omega); have s1 : w8.cell? ⟨q3, 1, none⟩ = some (.int .i64 d) := OI8.cell 1 (by omega); have K8 : Only q w w8 := (only_far (KU.out.trans (Only.ofBelow B6)) K7 HLE.out).trans (Only.ofBelow B8); have HOI8 : Hid (Own w8 q3 6 (insV o d ma mb mc x)) := OI8; have HOZ8 : Hid (Own w8 (q3 + 1) 6 (insV 0 0 0 0 0 0)) := OZ8; have HOS8 : Hid (Own w8 q 400 (fun r => .int .i64 (F r))) := OS8; have HK8 : Hid (Only q w w8) := K8; clear B6 K7 O7 B8 y0 OZ8 OS8 OI8 K8 h85) | (go_at_call 89; refine (forget89 q F d w8 d0 HOS8.out).mono ?_; rintro e w9 ⟨rfl, O9, K9⟩; have HOI9 : Hid (Own w9 q3 6 (insV o d ma mb mc x)) := HOI8.out.but K9 (by have := HQ.out; omega); have HOZ9 : Hid (Own w9 (q3 + 1) 6 (insV 0 0 0 0 0 0)) := HOZ8.out.but K9 (by have := HQ.out; omega); have HOS9 : Hid (Own w9 q 400 (fun r => .int .i64 (fgF F d r))) := O9; have HK9 : Hid (Only q w w9) := HK8.out.trans K9; have t0 : w9.cell? ⟨q3, 0, none⟩ = some (.int .i64 o) := HOI9.out.cell 0 (by omega); have t1 : w9.cell? ⟨q3, 1, none⟩ = some (.int .i64 d) := HOI9.out.cell 1 (by omega); have t2 : w9.cell? ⟨q3, 2, none⟩ = some (.int .i64 ma) := HOI9.out.cell 2 (by omega); clear O9 K9 s0 s1) | (refine wpList_load_own rfl 40 _ rfl q3 rfl 6 _ _ HOI9.out Tryd.underlying40 rfl size40 ?_; simp only [ins6]) | (refine wpList_store_own rfl 40 _ _ rfl (q3 + 1) rfl 6 _ (insV o d ma mb mc x) rfl HOZ9.out (insV_one o d ma mb mc x) size40 ?_; intro w10 O10 K10))
          (try simp only [Exit.inBlock, Exit.then])
          exact bodyPost_ret (results_own rfl _ _ (q3 + 1) 6 _ _ rfl O10 Tryd.underlying40 rfl size40) rfl ⟨by rw [ins6, HMa.out, HMb.out, HMc.out], by rw [HMa.out, HS.out]; exact HOS9.out.but K10 (by have := HQ.out; omega), only_far HK9.out K10 (by have := HLE.out; omega)⟩
end Go.Proofs.YtlfgboiejoiboaaDoor
