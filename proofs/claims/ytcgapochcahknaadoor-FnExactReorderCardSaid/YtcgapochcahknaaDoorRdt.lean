/- The model's l10Reads: the registers that an instruction reads, rising. -/
import Derived.Test.YtcgapochcahknaaDoorRop
import Derived.Deep.Cut
import Derived.Deep.DeepCutAuto
import Derived.Deep.CutBlock
import Derived.Deep.RegionHeld3
import Derived.Laws.AppendOwnNone
namespace Go.Proofs.YtcgapochcahknaaDoor
open Go.ChangeShapes Go.WideShapes Go.ChangeAt Go.RowKit
set_option linter.unusedVariables false
theorem step_call {P : Program} {ops : Array Oper} {o : Oper} {a : Act} {w : World} {K : Act → World → Prop} {Q : Exit → Act → World → Prop} {E : Prop} (f : FuncId) (args : Array Value) (v : Value) (hgd : o.guard = none) (hrun : (execOp a.eval o).run P w = .ok (.enter f args) w) (h : Calls P f args w fun e w' => e = .returned v ∧ w' = w) (hK : K (a.put o.dst v) w) : if Region.wanted o (yielded ops a.tmps) = true then Oper.wp P o a w K Q else E := by
  have hw : Region.wanted o (yielded ops a.tmps) = true := by simp [Region.wanted, hgd]
  rw [if_pos hw]
  unfold Oper.wp
  rw [hrun, Oper.upon_enter]
  refine h.mono ?_
  rintro e w' ⟨rfl, rfl⟩
  exact hK
theorem step_callC {P : Program} {ops : Array Oper} {o : Oper} {a : Act} {w : World} {K : Act → World → Prop} {Q : Exit → Act → World → Prop} {E : Prop} (f : FuncId) (args : Array Value) (R : Value → World → World → Prop) (hgd : o.guard = none) (hrun : (execOp a.eval o).run P w = .ok (.enter f args) w) (h : Calls P f args w fun e w' => ∃ v, e = .returned v ∧ R v w w') (hK : ∀ v w', R v w w' → K (a.put o.dst v) w') : if Region.wanted o (yielded ops a.tmps) = true then Oper.wp P o a w K Q else E := by
  have hw : Region.wanted o (yielded ops a.tmps) = true := by simp [Region.wanted, hgd]
  rw [if_pos hw]
  unfold Oper.wp
  rw [hrun, Oper.upon_enter]
  refine h.mono ?_
  rintro e w' ⟨v, rfl, hR⟩
  exact hK v w' hR
def R55 (k : Nat) (cw : ByteArray) (r : Value) (w0 w' : World) : Prop := ∃ g, r = Value.slice (some ⟨g, 0, none⟩) 11 11 ∧ World.cell? w' ⟨g, k, none⟩ = some (.string cw) ∧ Below w0.heap.size w0 w'
/-- The condition may be made stronger on the way. -/
theorem wpAnyH_more {P : Program} {md : Region.Mode} {ops : Array Oper} {Q : Exit → Act → World → Prop} {S S' : World → Prop} (h : ∀ w, S' w → S w) : ∀ (fuel : Nat) (listed : Array Bool) (a : Act) (w : World), wpAnyH P md ops Q S' fuel listed a w → wpAnyH P md ops Q S fuel listed a w
  | 0, _, _, _, k => k
  | fuel + 1, _, _, _, k => ⟨k.1, fun i hi => wpOp_mono (fun _ _ l => ⟨h _ l.1, wpAnyH_more h fuel _ _ _ l.2⟩) (k.2 i hi)⟩
/-- The instruction's box, behind W. -/
structure Sx (q : Nat) (a b c x : Int) (W v : World) : Prop where
  c2 : v.cell? ⟨q, 2, none⟩ = some (.int .i64 a)
  c3 : v.cell? ⟨q, 3, none⟩ = some (.int .i64 b)
  c4 : v.cell? ⟨q, 4, none⟩ = some (.int .i64 c)
  c5 : v.cell? ⟨q, 5, none⟩ = some (.int .u32 x)
  below : Below W.heap.size W v
theorem cell_next {v v' : World} {p : Addr} {u : Value} (h : v.cell? p = some u) (k : Below v.heap.size v v') : v'.cell? p = some u := (k.cell (World.block_lt_of_cell? _ p h)).trans h
theorem Sx.next {q : Nat} {a b c x : Int} {W v v' : World} (h : Sx q a b c x W v) (k : Below v.heap.size v v') : Sx q a b c x W v' := ⟨cell_next h.c2 k, cell_next h.c3 k, cell_next h.c4 k, cell_next h.c5 k, h.below.trans (k.mono h.below.size)⟩
theorem alloc_b {v : World} {o : Obj} : Below v.heap.size v (v.alloc o) := (Below.refl _ _).alloc (Nat.le_refl _) _
theorem below_drew {B : Nat} {a w : World} (h : Below B a w) : Below B a w.drew := ⟨h.os, h.tape, h.output, h.size, h.block⟩
theorem IRow.of3 {W w : World} {a b c R : Int} {g : Nat} {L : List Int} (h : Row3 W w a b c g) (hL : [a, b, c].take R.toNat = L) (r0 : 1 ≤ R) (r3 : R ≤ 3) : IRow w (.slice (some ⟨g, 0, none⟩) R.toNat 3) L := (IOwn.of3 h (Nat.zero_le _) hL r0 r3).row
theorem Row3.newS {W v : World} (a b c : Int) (h : Below W.heap.size W v) : Row3 W (v.alloc (.cells #[.int .i64 a, .int .i64 b, .int .i64 c] 3)) a b c v.heap.size := ⟨h.size, ints_new v [a, b, c]⟩
theorem IRow.at {w : World} {ad : Option Addr} {n cp : Nat} {L : List Int} (h : IRow w (.slice ad n cp) L) (hn : L.length = n) (h0 : 0 < n) : ∃ g, ad = some ⟨g, 0, none⟩ ∧ n ≤ cp ∧ Own w g n (fun i => .int .i64 (L.getD i 0)) := by
  rcases h with ⟨rfl, _⟩ | ⟨g, c, hv, hc, O⟩
  · simp at hn; omega
  · injection hv with h1 h2 h3
    subst h3
    rw [hn] at hc O
    exact ⟨g, h1, hc, O⟩
theorem srt_take (L : List Int) (k : Nat) (hk : k < L.length) : srt (L.take (k + 1)) = insU (L.getD k 0) (srt (L.take k)) := by
  rw [← srt_snoc]
  congr 1
  rw [List.take_add_one]
  simp [List.getD, hk]
theorem ri_cases {B : Nat} {w : World} {u : Value} {M : List Int} (h : Ri B w u M) : (M = [] ∧ u = .slice none 0 0) ∨ ∃ g c, u = .slice (some ⟨g, 0, none⟩) M.length c ∧ M.length ≤ c ∧ g < w.heap.size ∧ ∀ i, i < M.length → w.cell? ⟨g, i, none⟩ = some (.int .i64 (M.getD i 0)) := by
  have hw := h.1
  rcases h.1.2 with ⟨h1, h2⟩ | ⟨g, c, cur, h1, h2, h3, h4, h5, h6, h7⟩
  · exact Or.inl ⟨List.eq_nil_of_length_eq_zero h2, h1⟩
  · refine Or.inr ⟨g, c, h1, h4, (h.lt g (by rw [h1]; rfl)).2, fun i hi => ?_⟩
    subst h1
    rw [World.ownsRow.cellAt hw i (by omega)]
    simp [il, List.getD, hi]
theorem il_cells {w : World} {g p : Nat} {N : List Int} (h : ∀ i, i < N.length → w.cell? ⟨g, p + i, none⟩ = some (.int .i64 (N.getD i 0))) : ∀ j u, (il N)[j]? = some u → w.cell? ((⟨g, p, none⟩ : Addr).add j) = some u := by
  intro j u hj
  have hl : j < N.length := by
    rcases Nat.lt_or_ge j N.length with h | h
    · exact h
    · rw [List.getElem?_eq_none (by simpa [il] using h)] at hj; cases hj
  have := h j hl
  simp [il, hl] at hj
  have e : (⟨g, p, none⟩ : Addr).add j = ⟨g, p + j, none⟩ := by cases j <;> simp [Addr.add]
  rw [e, this, ← hj]
  simp [List.getD, hl]
theorem cells_take {w : World} {g m p : Nat} {M : List Int} (h : ∀ i, i < m → w.cell? ⟨g, i, none⟩ = some (.int .i64 (M.getD i 0))) (hm : M.length = m) (hp : p ≤ m) : ∀ j u, (il (M.take p))[j]? = some u → w.cell? ((⟨g, 0, none⟩ : Addr).add j) = some u :=
  il_cells fun i hi => by
    simp at hi
    have hp' : i < p := by omega
    rw [Nat.zero_add, h i (by omega)]
    simp [List.getD, hp']
theorem cells_drop {w : World} {g m p : Nat} {M : List Int} (h : ∀ i, i < m → w.cell? ⟨g, i, none⟩ = some (.int .i64 (M.getD i 0))) (hm : M.length = m) : ∀ j u, (il (M.drop p))[j]? = some u → w.cell? ((⟨g, p, none⟩ : Addr).add j) = some u :=
  il_cells fun i hi => by
    simp at hi
    rw [h (p + i) (by omega)]
    simp [List.getD]
theorem cells_none {w : World} {g q p : Nat} {M : List Int} (hm : M.length ≤ p) : ∀ j u, (il (M.drop p))[j]? = some u → w.cell? ((⟨g, q, none⟩ : Addr).add j) = some u := by
  intro j u hj
  rw [List.drop_eq_nil_of_le hm] at hj
  simp [il] at hj
theorem one_new {w : World} (y : Int) : ∀ j u, [Value.int .i64 y][j]? = some u → (w.alloc (.cells #[.int .i64 y] 3)).cell? ((⟨w.heap.size, 0, none⟩ : Addr).add j) = some u := by
  intro j u hj
  match j, hj with
  | 0, hj => simp at hj; subst hj; simp [Addr.add]
theorem one_one (y : Int) : ∀ u ∈ [Value.int .i64 y], u.oneCell' = true := by
  intro u hu
  simp at hu
  subst hu
  rfl
theorem lt_snoc {M : List Int} {p : Nat} {y z : Int} (h : ∀ i, i < p → M.getD i 0 < y) (hz : M.getD p 0 = z) (hzy : z < y) : ∀ i, i < p + 1 → M.getD i 0 < y := by
  intro i hi
  rcases Nat.lt_or_ge i p with k | k
  · exact h i k
  · obtain rfl : i = p := by omega
    rw [hz]
    exact hzy
theorem il_one (N : List Int) : ∀ u ∈ il N, u.oneCell' = true := by
  intro u hu
  simp [il] at hu
  obtain ⟨z, _, rfl⟩ := hu
  rfl
theorem il_len (N : List Int) : (il N).length = N.length * 1 := by simp [il]
theorem ri_of {B b : Nat} {w : World} {u : Value} {n : Nat} {xs : List Value} {M : List Int} (h : w.ownsRow b 3 1 u n xs) (hb : B ≤ b) (hs : b ≤ w.heap.size) (hn : n = M.length) (hx : xs = il M) : Ri B w u M := by
  subst hn hx
  refine ⟨⟨h.1, ?_⟩, Nat.le_trans hb hs⟩
  rcases h.2 with h1 | ⟨g, c, cur, h1, h2, h3⟩
  · exact Or.inl h1
  · exact Or.inr ⟨g, c, cur, h1, Nat.le_trans hb h2, h3⟩
theorem below_grown {b : Nat} {w w1 w2 : World} {r : Option Nat} (h : Below b w w1) (hb : b ≤ w1.heap.size) (k : w1.grownBy w2 r) (hr : ∀ g, r = some g → b ≤ g) : Below b w w2 := h.grown k hb hr
set_option maxRecDepth 100000 in
set_option maxHeartbeats 4000000 in
theorem reads39 (o d a b c x : Int) (w : World) (x0 : 0 ≤ x) (x1 : x < 4294967296) (ho : 1 ≤ o ∧ o ≤ 13) (h4 : o = 4 → 1 ≤ ar (calW x)) : Calls Tryd.prog 116 #[.agg #[.int .i64 o, .int .i64 d, .int .i64 a, .int .i64 b, .int .i64 c, .int .u32 x]] w fun e w' => ∃ v, e = .returned v ∧ Ri w.heap.size w' v (srt (opsL o a b c x)) ∧ Below w.heap.size w w' := by
  obtain ⟨i3, hi3, hz30, hz31, hz32⟩ := info_parts info3
  have h55 : ∀ v, Calls Tryd.prog 61 #[] v fun r w' => ∃ g, r = .returned (.slice (some ⟨g, 0, none⟩) 11 11) ∧ Own w' g 11 (fun i => .string (textAt callsL i)) ∧ v.heap.size ≤ g ∧ Below v.heap.size v w' := fun v => (calls55 v).mono fun e w' ⟨h1, h2, h3⟩ => ⟨_, h1, h2, Nat.le_refl _, h3⟩
  have h56 := fun v => arity56 (calW x) v
  have d0 : 0 ≤ x / 4 := by omega
  have t1 : x.tdiv 4 = x / 4 := Int.tdiv_eq_ediv_of_nonneg x0
  have t2 : IntKind.u32.wrap (x / 4) = x / 4 := by simp [IntKind.wrap, IntKind.bits, IntKind.signed]; omega
  have HLN := opsL_len o a b c x
  obtain ⟨L, hL⟩ : ∃ L, opsL o a b c x = L := ⟨_, rfl⟩
  have HL : Hid (opsL o a b c x = L) := hL
  rw [hL] at HLN ⊢
  clear hL
  go_enter Tryd.func116, Tryd.ntmps116
  go_upto_block 0 with fail
  go_cut [3] (fun lv wx => IRow wx lv L ∧ Below w.heap.size w wx)
  case first =>
    have HOP := op_in o ho
    clear ho
    rcases HOP with rfl | rfl | rfl | rfl | rfl | rfl | rfl | rfl | rfl | rfl | rfl | rfl | rfl
    · obtain rfl : [] = L := HL.out
      clear h4
      go_wp2
      go_meet
      case rel => exact ⟨Or.inl ⟨rfl, rfl⟩, (Below.refl _ _).alloc (Nat.le_refl _) _⟩
    · obtain rfl : [a] = L := HL.out
      clear h4
      go_wp2
      go_meet
      case rel => exact ⟨Or.inr ⟨_, 1, rfl, by simp, ints_at _ _ (by simp) [a]⟩, ((Below.refl _ _).alloc (Nat.le_refl _) _).alloc (by simp) _⟩
    · obtain rfl : [a, b] = L := HL.out
      clear h4
      go_wp2
      go_meet
      case rel => exact ⟨Or.inr ⟨_, 2, rfl, by simp, ints_at _ _ (by simp) [a, b]⟩, ((Below.refl _ _).alloc (Nat.le_refl _) _).alloc (by simp) _⟩
    · have hr := ar_le (calW x)
      have hr1 := h4 rfl
      have HL4 : Hid ([a, b, c].take (ar (calW x)).toNat = L) := HL.out
      have k11 : x / 4 < 11 := by
        rcases Nat.lt_or_ge (x / 4).toNat 11 with h | h
        · omega
        · have : ar (calW x) = -1 := by unfold calW; rw [textAt_beyond _ _ h]; exact ar_empty
          omega
      have HSG : Hid (textAt callsL (x / 4).toNat = calW x) := rfl
      generalize calW x = cw at h56 hr hr1 HL4 HSG
      generalize ar cw = R at h56 hr hr1 HL4
      clear h4 HL
      obtain ⟨q, hq⟩ : ∃ q, w.heap.size = q := ⟨_, rfl⟩
      have BW : Hid (Below w.heap.size w (w.alloc (.cells #[.int .i64 4, .int .i64 d, .int .i64 a, .int .i64 b, .int .i64 c, .int .u32 x] 35))) := (Below.refl _ _).alloc (Nat.le_refl _) _
      have c2 : (w.alloc (.cells #[.int .i64 4, .int .i64 d, .int .i64 a, .int .i64 b, .int .i64 c, .int .u32 x] 35)).cell? ⟨w.heap.size, 2, none⟩ = some (.int .i64 a) := by simp
      have c3 : (w.alloc (.cells #[.int .i64 4, .int .i64 d, .int .i64 a, .int .i64 b, .int .i64 c, .int .u32 x] 35)).cell? ⟨w.heap.size, 3, none⟩ = some (.int .i64 b) := by simp
      have c4 : (w.alloc (.cells #[.int .i64 4, .int .i64 d, .int .i64 a, .int .i64 b, .int .i64 c, .int .u32 x] 35)).cell? ⟨w.heap.size, 4, none⟩ = some (.int .i64 c) := by simp
      have c5 : (w.alloc (.cells #[.int .i64 4, .int .i64 d, .int .i64 a, .int .i64 b, .int .i64 c, .int .u32 x] 35)).cell? ⟨w.heap.size, 5, none⟩ = some (.int .u32 x) := by simp
      have HR : Hid (1 ≤ R ∧ R ≤ 3) := ⟨hr1, hr.2⟩
      have r0 : 0 ≤ R := by omega
      have r3 : R ≤ 3 := hr.2
      have r4 : R.toNat ≤ 3 := by omega
      have r5 : ¬ R < 0 := by omega
      have r6 : ¬ 3 < R := by omega
      have r7 : ¬ 3 < R.toNat := by omega
      have HB : Hid (∀ v, Below (w.alloc (.cells #[.int .i64 4, .int .i64 d, .int .i64 a, .int .i64 b, .int .i64 c, .int .u32 x] 35)).heap.size (w.alloc (.cells #[.int .i64 4, .int .i64 d, .int .i64 a, .int .i64 b, .int .i64 c, .int .u32 x] 35)) v → Below w.heap.size w v) := fun v k => BW.out.trans (k.mono BW.out.size)
      clear hr hr1
      go_upto_region 13 with fail
      obtain ⟨W, hW⟩ : ∃ W, (w.alloc (.cells #[.int .i64 4, .int .i64 d, .int .i64 a, .int .i64 b, .int .i64 c, .int .u32 x] 35)) = W := ⟨_, rfl⟩
      rw [hW] at BW c2 c3 c4 c5 HB ⊢
      rw [hq] at c2 c3 c4 c5 ⊢
      have h55c : ∀ v, Calls Tryd.prog 61 #[] v fun e w' => ∃ r, e = .returned r ∧ R55 (x / 4).toNat cw r v w' := fun v => (h55 v).mono fun e w' hh => by
        obtain ⟨g, rfl, O5, hg5, b5⟩ := hh
        exact ⟨_, rfl, g, rfl, (O5.cell (x / 4).toNat (by omega)).trans (congrArg (fun s => some (Value.string s)) HSG.out), b5⟩
      have hS : Sx q a b c x W W.drew := ⟨c2, c3, c4, c5, below_drew (Below.refl _ _)⟩
      clear hi3 hz30 hz31 hz32 x0 x1 HLN h55 HSG c2 c3 c4 c5 BW
      refine wp_region_held_drew (S := Sx q a b c x W) (by kernel_rfl) hS (fun hH => ?_)
      clear hS
      refine wpAnyH_take (i := 0) (oi := { dst := some 30, op := Op.fieldAddr 35 (Operand.tmp 1) 2, type := 0, pos := "l10_code.go:99", after := #[], guard := none }) (v := .pointer (some ⟨q, 2, none⟩)) rfl (by kernel_rfl) (by kernel_rfl) (by kernel_rfl) (fun _ _ _ h => h) (Or.inl ⟨by rfl, fun w0 hSw => by (obtain ⟨t2, t3, t4, t5, tb⟩ := hSw; clear tb; go_simp)⟩) hH ?_
      simp only [Act.put, List.setIfInBounds_toArray, List.set_cons_zero, List.set_cons_succ]
      refine wpAnyH_take (i := 1) (oi := { dst := some 31, op := Op.load 3 (Operand.tmp 30), type := 3, pos := "l10_code.go:99", after := #[{ on := 0, ground := Ground.data }], guard := none }) (v := .int .i64 a) rfl (by kernel_rfl) (by kernel_rfl) (by kernel_rfl) (fun _ _ _ h => h) (Or.inl ⟨by rfl, fun w0 hSw => by (obtain ⟨t2, t3, t4, t5, tb⟩ := hSw; clear tb; go_simp)⟩) hH ?_
      simp only [Act.put, List.setIfInBounds_toArray, List.set_cons_zero, List.set_cons_succ]
      refine wpAnyH_take (i := 2) (oi := { dst := some 32, op := Op.fieldAddr 35 (Operand.tmp 1) 3, type := 0, pos := "l10_code.go:99", after := #[], guard := none }) (v := .pointer (some ⟨q, 3, none⟩)) rfl (by kernel_rfl) (by kernel_rfl) (by kernel_rfl) (fun _ _ _ h => h) (Or.inl ⟨by rfl, fun w0 hSw => by (obtain ⟨t2, t3, t4, t5, tb⟩ := hSw; clear tb; go_simp)⟩) hH ?_
      simp only [Act.put, List.setIfInBounds_toArray, List.set_cons_zero, List.set_cons_succ]
      refine wpAnyH_take (i := 3) (oi := { dst := some 33, op := Op.load 3 (Operand.tmp 32), type := 3, pos := "l10_code.go:99", after := #[{ on := 2, ground := Ground.data }], guard := none }) (v := .int .i64 b) rfl (by kernel_rfl) (by kernel_rfl) (by kernel_rfl) (fun _ _ _ h => h) (Or.inl ⟨by rfl, fun w0 hSw => by (obtain ⟨t2, t3, t4, t5, tb⟩ := hSw; clear tb; go_simp)⟩) hH ?_
      simp only [Act.put, List.setIfInBounds_toArray, List.set_cons_zero, List.set_cons_succ]
      refine wpAnyH_take (i := 4) (oi := { dst := some 34, op := Op.fieldAddr 35 (Operand.tmp 1) 4, type := 0, pos := "l10_code.go:99", after := #[], guard := none }) (v := .pointer (some ⟨q, 4, none⟩)) rfl (by kernel_rfl) (by kernel_rfl) (by kernel_rfl) (fun _ _ _ h => h) (Or.inl ⟨by rfl, fun w0 hSw => by (obtain ⟨t2, t3, t4, t5, tb⟩ := hSw; clear tb; go_simp)⟩) hH ?_
      simp only [Act.put, List.setIfInBounds_toArray, List.set_cons_zero, List.set_cons_succ]
      refine wpAnyH_take (i := 5) (oi := { dst := some 35, op := Op.load 3 (Operand.tmp 34), type := 3, pos := "l10_code.go:99", after := #[{ on := 4, ground := Ground.data }], guard := none }) (v := .int .i64 c) rfl (by kernel_rfl) (by kernel_rfl) (by kernel_rfl) (fun _ _ _ h => h) (Or.inl ⟨by rfl, fun w0 hSw => by (obtain ⟨t2, t3, t4, t5, tb⟩ := hSw; clear tb; go_simp)⟩) hH ?_
      simp only [Act.put, List.setIfInBounds_toArray, List.set_cons_zero, List.set_cons_succ]
      refine wpAnyH_take (i := 8) (oi := { dst := some 38, op := Op.fieldAddr 35 (Operand.tmp 1) 5, type := 0, pos := "l10_code.go:99", after := #[], guard := none }) (v := .pointer (some ⟨q, 5, none⟩)) rfl (by kernel_rfl) (by kernel_rfl) (by kernel_rfl) (fun _ _ _ h => h) (Or.inl ⟨by rfl, fun w0 hSw => by (obtain ⟨t2, t3, t4, t5, tb⟩ := hSw; clear tb; go_simp)⟩) hH ?_
      simp only [Act.put, List.setIfInBounds_toArray, List.set_cons_zero, List.set_cons_succ]
      refine wpAnyH_take (i := 9) (oi := { dst := some 39, op := Op.load 31 (Operand.tmp 38), type := 31, pos := "l10_code.go:99", after := #[{ on := 8, ground := Ground.data }], guard := none }) (v := .int .u32 x) rfl (by kernel_rfl) (by kernel_rfl) (by kernel_rfl) (fun _ _ _ h => h) (Or.inl ⟨by rfl, fun w0 hSw => by (obtain ⟨t2, t3, t4, t5, tb⟩ := hSw; clear tb; go_simp)⟩) hH ?_
      simp only [Act.put, List.setIfInBounds_toArray, List.set_cons_zero, List.set_cons_succ]
      refine wpAnyH_take (i := 10) (oi := { dst := some 40, op := Op.binOp BinOp.quo 31 (Operand.tmp 39) (Operand.const (Value.int IntKind.u32 4)) 31, type := 31, pos := "l10_code.go:99", after := #[{ on := 9, ground := Ground.data }], guard := none }) (v := .int .u32 (x / 4)) rfl (by kernel_rfl) (by kernel_rfl) (by kernel_rfl) (fun _ _ _ h => h) (Or.inl ⟨by rfl, fun w0 hSw => by (obtain ⟨t2, t3, t4, t5, tb⟩ := hSw; clear tb; go_simp)⟩) hH ?_
      simp only [Act.put, List.setIfInBounds_toArray, List.set_cons_zero, List.set_cons_succ]
      refine wpAnyH_ready (rs := [6, 7]) (by kernel_rfl) (by simp) ?_
      refine (AllReadyH.cons (o := { dst := some 36, op := Op.buildSlice 45 3 #[(0, Operand.tmp 31), (1, Operand.tmp 33), (2, Operand.tmp 35)], type := 45, pos := "l10_code.go:99", after := #[{ on := 1, ground := Ground.data }, { on := 3, ground := Ground.data }, { on := 5, ground := Ground.data }], guard := none }) rfl (fun K hK => ?_) (AllReadyH.cons (o := { dst := some 37, op := Op.call { callee := Callee.value (Operand.func 61), args := #[], argTypes := #[] }, type := 81, pos := "l10_code.go:99", after := #[], guard := none }) rfl (fun K hK => ?_) AllReadyH.nil))
      · go_simp
        have rw6 := Row3.newS a b c hH.below
        refine hK.out _ _ (hH.next alloc_b) (fun hH' => ?_)
        clear hK K hH
        have hH := hH'
        refine wpAnyH_ready (rs := [7]) (by kernel_rfl) (by simp) ?_
        refine (AllReadyH.cons (o := { dst := some 37, op := Op.call { callee := Callee.value (Operand.func 61), args := #[], argTypes := #[] }, type := 81, pos := "l10_code.go:99", after := #[], guard := none }) rfl (fun K hK => ?_) AllReadyH.nil)
        refine step_callC 61 #[] (R55 (x / 4).toNat cw) (by rfl) (by go_simp) (h55c _) ?_
        rintro v5 w5 ⟨g5, rfl, k0, b5⟩
        simp only [Act.put, List.setIfInBounds_toArray, List.set_cons_zero, List.set_cons_succ]
        replace rw6 := rw6.next b5
        refine hK.out _ _ (hH.next b5) (fun hH' => ?_)
        clear hK K
        refine wpAnyH_more (S' := fun v => Sx q a b c x W v ∧ v.cell? ⟨g5, (x / 4).toNat, none⟩ = some (.string cw)) (fun _ h => h.1) _ _ _ _ ?_
        replace hH : Sx q a b c x W w5 ∧ w5.cell? ⟨g5, (x / 4).toNat, none⟩ = some (.string cw) := ⟨hH', k0⟩
        clear hH' k0 b5
        refine wpAnyH_take (i := 11) (oi := { dst := some 41, op := Op.indexAddr 81 (Operand.tmp 37) (Operand.tmp 40), type := 0, pos := "l10_code.go:99", after := #[{ on := 7, ground := Ground.data }, { on := 10, ground := Ground.data }], guard := none }) (v := .pointer (some ⟨g5, (x / 4).toNat, none⟩)) rfl (by kernel_rfl) (by kernel_rfl) (by kernel_rfl) (fun _ _ _ h => h) (Or.inl ⟨by rfl, fun w0 hSw => by (obtain ⟨⟨t2, t3, t4, t5, tb⟩, t0⟩ := hSw; clear tb; go_simp)⟩) hH ?_
        simp only [Act.put, List.setIfInBounds_toArray, List.set_cons_zero, List.set_cons_succ]
        refine wpAnyH_take (i := 12) (oi := { dst := some 42, op := Op.load 9 (Operand.tmp 41), type := 9, pos := "l10_code.go:99", after := #[{ on := 11, ground := Ground.data }], guard := none }) (v := .string cw) rfl (by kernel_rfl) (by kernel_rfl) (by kernel_rfl) (fun _ _ _ h => h) (Or.inl ⟨by rfl, fun w0 hSw => by (obtain ⟨⟨t2, t3, t4, t5, tb⟩, t0⟩ := hSw; clear tb; go_simp)⟩) hH ?_
        simp only [Act.put, List.setIfInBounds_toArray, List.set_cons_zero, List.set_cons_succ]
        refine wpAnyH_ready (rs := [13]) (by kernel_rfl) (by simp) ?_
        refine (AllReadyH.cons (o := { dst := some 43, op := Op.call { callee := Callee.value (Operand.func 60), args := #[Operand.tmp 42], argTypes := #[9] }, type := 3, pos := "l10_code.go:99", after := #[{ on := 12, ground := Ground.data }, { on := 7, ground := Ground.chain }], guard := none }) rfl (fun K hK => ?_) AllReadyH.nil)
        refine step_call 60 #[.string cw] (.int .i64 R) (by rfl) (by go_simp) (h56 _) ?_
        simp only [Act.put, List.setIfInBounds_toArray, List.set_cons_zero, List.set_cons_succ]
        refine hK.out _ _ hH (fun hH' => ?_)
        clear hK K hH'
        refine wpAnyH_take (i := 14) (oi := { dst := some 44, op := Op.slice 45 (Operand.tmp 36) none (some (Operand.tmp 43)) none, type := 45, pos := "l10_code.go:99", after := #[{ on := 6, ground := Ground.data }, { on := 13, ground := Ground.data }], guard := none }) (v := .slice (some ⟨W.heap.size, 0, none⟩) R.toNat 3) rfl (by kernel_rfl) (by kernel_rfl) (by kernel_rfl) (fun _ _ _ h => h) (Or.inl ⟨by rfl, fun w0 hSw => by (obtain ⟨⟨t2, t3, t4, t5, tb⟩, t0⟩ := hSw; clear tb; go_simp)⟩) hH ?_
        simp only [Act.put, List.setIfInBounds_toArray, List.set_cons_zero, List.set_cons_succ]
        refine wpAnyH_take (i := 15) (oi := { dst := some 3, op := Op.assign (Operand.tmp 44), type := 45, pos := "l10_code.go:99", after := #[{ on := 14, ground := Ground.data }, { on := 13, ground := Ground.chain }, { on := 0, ground := Ground.phase }, { on := 1, ground := Ground.phase }, { on := 2, ground := Ground.phase }, { on := 3, ground := Ground.phase }, { on := 4, ground := Ground.phase }, { on := 5, ground := Ground.phase }, { on := 6, ground := Ground.phase }, { on := 7, ground := Ground.phase }, { on := 8, ground := Ground.phase }, { on := 9, ground := Ground.phase }, { on := 10, ground := Ground.phase }, { on := 11, ground := Ground.phase }, { on := 12, ground := Ground.phase }, { on := 13, ground := Ground.phase }, { on := 14, ground := Ground.phase }], guard := none }) (v := .slice (some ⟨W.heap.size, 0, none⟩) R.toNat 3) rfl (by kernel_rfl) (by kernel_rfl) (by kernel_rfl) (fun _ _ _ h => h) (Or.inl ⟨by rfl, fun w0 hSw => by (obtain ⟨⟨t2, t3, t4, t5, tb⟩, t0⟩ := hSw; clear tb; go_simp)⟩) hH ?_
        simp only [Act.put, List.setIfInBounds_toArray, List.set_cons_zero, List.set_cons_succ]
        refine wpAnyH_done (by kernel_rfl) ?_ _
        have HT := hH.1.below
        have HT2 : Hid (Below W.heap.size W _) := HT
        have RW : Hid (Row3 W _ a b c _) := rw6
        clear hH HT rw6
        go_wp2_with fail
        subst hq
        go_meet
        case rel => exact ⟨IRow.of3 RW.out HL4.out HR.out.1 HR.out.2, HB.out _ HT2.out⟩
      · refine step_callC 61 #[] (R55 (x / 4).toNat cw) (by rfl) (by go_simp) (h55c _) ?_
        rintro v5 w5 ⟨g5, rfl, k0, b5⟩
        simp only [Act.put, List.setIfInBounds_toArray, List.set_cons_zero, List.set_cons_succ]
        refine hK.out _ _ (hH.next b5) (fun hH' => ?_)
        clear hK K
        refine wpAnyH_more (S' := fun v => Sx q a b c x W v ∧ v.cell? ⟨g5, (x / 4).toNat, none⟩ = some (.string cw)) (fun _ h => h.1) _ _ _ _ ?_
        replace hH : Sx q a b c x W w5 ∧ w5.cell? ⟨g5, (x / 4).toNat, none⟩ = some (.string cw) := ⟨hH', k0⟩
        clear hH' k0 b5
        refine wpAnyH_take (i := 11) (oi := { dst := some 41, op := Op.indexAddr 81 (Operand.tmp 37) (Operand.tmp 40), type := 0, pos := "l10_code.go:99", after := #[{ on := 7, ground := Ground.data }, { on := 10, ground := Ground.data }], guard := none }) (v := .pointer (some ⟨g5, (x / 4).toNat, none⟩)) rfl (by kernel_rfl) (by kernel_rfl) (by kernel_rfl) (fun _ _ _ h => h) (Or.inl ⟨by rfl, fun w0 hSw => by (obtain ⟨⟨t2, t3, t4, t5, tb⟩, t0⟩ := hSw; clear tb; go_simp)⟩) hH ?_
        simp only [Act.put, List.setIfInBounds_toArray, List.set_cons_zero, List.set_cons_succ]
        refine wpAnyH_take (i := 12) (oi := { dst := some 42, op := Op.load 9 (Operand.tmp 41), type := 9, pos := "l10_code.go:99", after := #[{ on := 11, ground := Ground.data }], guard := none }) (v := .string cw) rfl (by kernel_rfl) (by kernel_rfl) (by kernel_rfl) (fun _ _ _ h => h) (Or.inl ⟨by rfl, fun w0 hSw => by (obtain ⟨⟨t2, t3, t4, t5, tb⟩, t0⟩ := hSw; clear tb; go_simp)⟩) hH ?_
        simp only [Act.put, List.setIfInBounds_toArray, List.set_cons_zero, List.set_cons_succ]
        refine wpAnyH_ready (rs := [6, 13]) (by kernel_rfl) (by simp) ?_
        refine (AllReadyH.cons (o := { dst := some 36, op := Op.buildSlice 45 3 #[(0, Operand.tmp 31), (1, Operand.tmp 33), (2, Operand.tmp 35)], type := 45, pos := "l10_code.go:99", after := #[{ on := 1, ground := Ground.data }, { on := 3, ground := Ground.data }, { on := 5, ground := Ground.data }], guard := none }) rfl (fun K hK => ?_) (AllReadyH.cons (o := { dst := some 43, op := Op.call { callee := Callee.value (Operand.func 60), args := #[Operand.tmp 42], argTypes := #[9] }, type := 3, pos := "l10_code.go:99", after := #[{ on := 12, ground := Ground.data }, { on := 7, ground := Ground.chain }], guard := none }) rfl (fun K hK => ?_) AllReadyH.nil))
        · go_simp
          have rw6 := Row3.newS a b c hH.1.below
          refine hK.out _ _ (⟨hH.1.next alloc_b, cell_next hH.2 alloc_b⟩) (fun hH' => ?_)
          clear hK K hH
          have hH := hH'
          refine wpAnyH_ready (rs := [13]) (by kernel_rfl) (by simp) ?_
          refine (AllReadyH.cons (o := { dst := some 43, op := Op.call { callee := Callee.value (Operand.func 60), args := #[Operand.tmp 42], argTypes := #[9] }, type := 3, pos := "l10_code.go:99", after := #[{ on := 12, ground := Ground.data }, { on := 7, ground := Ground.chain }], guard := none }) rfl (fun K hK => ?_) AllReadyH.nil)
          refine step_call 60 #[.string cw] (.int .i64 R) (by rfl) (by go_simp) (h56 _) ?_
          simp only [Act.put, List.setIfInBounds_toArray, List.set_cons_zero, List.set_cons_succ]
          refine hK.out _ _ hH (fun hH' => ?_)
          clear hK K hH'
          refine wpAnyH_take (i := 14) (oi := { dst := some 44, op := Op.slice 45 (Operand.tmp 36) none (some (Operand.tmp 43)) none, type := 45, pos := "l10_code.go:99", after := #[{ on := 6, ground := Ground.data }, { on := 13, ground := Ground.data }], guard := none }) (v := .slice (some ⟨w5.heap.size, 0, none⟩) R.toNat 3) rfl (by kernel_rfl) (by kernel_rfl) (by kernel_rfl) (fun _ _ _ h => h) (Or.inl ⟨by rfl, fun w0 hSw => by (obtain ⟨⟨t2, t3, t4, t5, tb⟩, t0⟩ := hSw; clear tb; go_simp)⟩) hH ?_
          simp only [Act.put, List.setIfInBounds_toArray, List.set_cons_zero, List.set_cons_succ]
          refine wpAnyH_take (i := 15) (oi := { dst := some 3, op := Op.assign (Operand.tmp 44), type := 45, pos := "l10_code.go:99", after := #[{ on := 14, ground := Ground.data }, { on := 13, ground := Ground.chain }, { on := 0, ground := Ground.phase }, { on := 1, ground := Ground.phase }, { on := 2, ground := Ground.phase }, { on := 3, ground := Ground.phase }, { on := 4, ground := Ground.phase }, { on := 5, ground := Ground.phase }, { on := 6, ground := Ground.phase }, { on := 7, ground := Ground.phase }, { on := 8, ground := Ground.phase }, { on := 9, ground := Ground.phase }, { on := 10, ground := Ground.phase }, { on := 11, ground := Ground.phase }, { on := 12, ground := Ground.phase }, { on := 13, ground := Ground.phase }, { on := 14, ground := Ground.phase }], guard := none }) (v := .slice (some ⟨w5.heap.size, 0, none⟩) R.toNat 3) rfl (by kernel_rfl) (by kernel_rfl) (by kernel_rfl) (fun _ _ _ h => h) (Or.inl ⟨by rfl, fun w0 hSw => by (obtain ⟨⟨t2, t3, t4, t5, tb⟩, t0⟩ := hSw; clear tb; go_simp)⟩) hH ?_
          simp only [Act.put, List.setIfInBounds_toArray, List.set_cons_zero, List.set_cons_succ]
          refine wpAnyH_done (by kernel_rfl) ?_ _
          have HT := hH.1.below
          have HT2 : Hid (Below W.heap.size W _) := HT
          have RW : Hid (Row3 W _ a b c _) := rw6
          clear hH HT rw6
          go_wp2_with fail
          subst hq
          go_meet
          case rel => exact ⟨IRow.of3 RW.out HL4.out HR.out.1 HR.out.2, HB.out _ HT2.out⟩
        · refine step_call 60 #[.string cw] (.int .i64 R) (by rfl) (by go_simp) (h56 _) ?_
          simp only [Act.put, List.setIfInBounds_toArray, List.set_cons_zero, List.set_cons_succ]
          refine hK.out _ _ hH (fun hH' => ?_)
          clear hK K hH'
          refine wpAnyH_ready (rs := [6]) (by kernel_rfl) (by simp) ?_
          refine (AllReadyH.cons (o := { dst := some 36, op := Op.buildSlice 45 3 #[(0, Operand.tmp 31), (1, Operand.tmp 33), (2, Operand.tmp 35)], type := 45, pos := "l10_code.go:99", after := #[{ on := 1, ground := Ground.data }, { on := 3, ground := Ground.data }, { on := 5, ground := Ground.data }], guard := none }) rfl (fun K hK => ?_) AllReadyH.nil)
          go_simp
          have rw6 := Row3.newS a b c hH.1.below
          refine hK.out _ _ (⟨hH.1.next alloc_b, cell_next hH.2 alloc_b⟩) (fun hH' => ?_)
          clear hK K hH
          have hH := hH'
          refine wpAnyH_take (i := 14) (oi := { dst := some 44, op := Op.slice 45 (Operand.tmp 36) none (some (Operand.tmp 43)) none, type := 45, pos := "l10_code.go:99", after := #[{ on := 6, ground := Ground.data }, { on := 13, ground := Ground.data }], guard := none }) (v := .slice (some ⟨w5.heap.size, 0, none⟩) R.toNat 3) rfl (by kernel_rfl) (by kernel_rfl) (by kernel_rfl) (fun _ _ _ h => h) (Or.inl ⟨by rfl, fun w0 hSw => by (obtain ⟨⟨t2, t3, t4, t5, tb⟩, t0⟩ := hSw; clear tb; go_simp)⟩) hH ?_
          simp only [Act.put, List.setIfInBounds_toArray, List.set_cons_zero, List.set_cons_succ]
          refine wpAnyH_take (i := 15) (oi := { dst := some 3, op := Op.assign (Operand.tmp 44), type := 45, pos := "l10_code.go:99", after := #[{ on := 14, ground := Ground.data }, { on := 13, ground := Ground.chain }, { on := 0, ground := Ground.phase }, { on := 1, ground := Ground.phase }, { on := 2, ground := Ground.phase }, { on := 3, ground := Ground.phase }, { on := 4, ground := Ground.phase }, { on := 5, ground := Ground.phase }, { on := 6, ground := Ground.phase }, { on := 7, ground := Ground.phase }, { on := 8, ground := Ground.phase }, { on := 9, ground := Ground.phase }, { on := 10, ground := Ground.phase }, { on := 11, ground := Ground.phase }, { on := 12, ground := Ground.phase }, { on := 13, ground := Ground.phase }, { on := 14, ground := Ground.phase }], guard := none }) (v := .slice (some ⟨w5.heap.size, 0, none⟩) R.toNat 3) rfl (by kernel_rfl) (by kernel_rfl) (by kernel_rfl) (fun _ _ _ h => h) (Or.inl ⟨by rfl, fun w0 hSw => by (obtain ⟨⟨t2, t3, t4, t5, tb⟩, t0⟩ := hSw; clear tb; go_simp)⟩) hH ?_
          simp only [Act.put, List.setIfInBounds_toArray, List.set_cons_zero, List.set_cons_succ]
          refine wpAnyH_done (by kernel_rfl) ?_ _
          have HT := hH.1.below
          have HT2 : Hid (Below W.heap.size W _) := HT
          have RW : Hid (Row3 W _ a b c _) := rw6
          clear hH HT rw6
          go_wp2_with fail
          subst hq
          go_meet
          case rel => exact ⟨IRow.of3 RW.out HL4.out HR.out.1 HR.out.2, HB.out _ HT2.out⟩
    · obtain rfl : [] = L := HL.out
      clear h4
      go_wp2
      go_meet
      case rel => exact ⟨Or.inl ⟨rfl, rfl⟩, (Below.refl _ _).alloc (Nat.le_refl _) _⟩
    · obtain rfl : [a] = L := HL.out
      clear h4
      go_wp2
      go_meet
      case rel => exact ⟨Or.inr ⟨_, 1, rfl, by simp, ints_at _ _ (by simp) [a]⟩, ((Below.refl _ _).alloc (Nat.le_refl _) _).alloc (by simp) _⟩
    · obtain rfl : [a, b] = L := HL.out
      clear h4
      go_wp2
      go_meet
      case rel => exact ⟨Or.inr ⟨_, 2, rfl, by simp, ints_at _ _ (by simp) [a, b]⟩, ((Below.refl _ _).alloc (Nat.le_refl _) _).alloc (by simp) _⟩
    · obtain rfl : [] = L := HL.out
      clear h4
      go_wp2
      go_meet
      case rel => exact ⟨Or.inl ⟨rfl, rfl⟩, (Below.refl _ _).alloc (Nat.le_refl _) _⟩
    · obtain rfl : [a] = L := HL.out
      clear h4
      go_wp2
      go_meet
      case rel => exact ⟨Or.inr ⟨_, 1, rfl, by simp, ints_at _ _ (by simp) [a]⟩, ((Below.refl _ _).alloc (Nat.le_refl _) _).alloc (by simp) _⟩
    · obtain rfl : [] = L := HL.out
      clear h4
      go_wp2
      go_meet
      case rel => exact ⟨Or.inl ⟨rfl, rfl⟩, (Below.refl _ _).alloc (Nat.le_refl _) _⟩
    · obtain rfl : [] = L := HL.out
      clear h4
      go_wp2
      go_meet
      case rel => exact ⟨Or.inl ⟨rfl, rfl⟩, (Below.refl _ _).alloc (Nat.le_refl _) _⟩
    · obtain rfl : [a] = L := HL.out
      clear h4
      go_wp2
      go_meet
      case rel => exact ⟨Or.inr ⟨_, 1, rfl, by simp, ints_at _ _ (by simp) [a]⟩, ((Below.refl _ _).alloc (Nat.le_refl _) _).alloc (by simp) _⟩
    · obtain rfl : [a] = L := HL.out
      clear h4
      go_wp2
      go_meet
      case rel => exact ⟨Or.inr ⟨_, 1, rfl, by simp, ints_at _ _ (by simp) [a]⟩, ((Below.refl _ _).alloc (Nat.le_refl _) _).alloc (by simp) _⟩
  case rest =>
    obtain ⟨HI, HBW⟩ := hcut
    have HI0 := HI.is
    obtain ⟨ad, cp, rfl⟩ := HI0
    have HIh : Hid (IRow wc (.slice ad L.length cp) L) := HI
    have HBh : Hid (Below w.heap.size w wc) := HBW
    obtain ⟨n, hn⟩ : ∃ n, L.length = n := ⟨_, rfl⟩
    have HN : Hid (L.length = n) := hn
    rw [hn] at HIh HLN ⊢
    clear HI HBW hn h55 h56 HL h4 ho x0 x1 d0 t1 t2
    have n3 : n ≤ 3 := HLN
    clear HLN
    go_wp2
    go_loopw [4, 47] (fun vv i wr => ∃ (k : Nat) (u : Value), k ≤ n ∧ i = .int .i64 k ∧ u = vv ∧ Hid (Ri w.heap.size wr u (srt (L.take k))) ∧ Hid (Below w.heap.size w wr) ∧ Hid (IRow wr (.slice ad n cp) L)) (fun _ i _ => n - (intOf i).toNat)
    case atStart => exact ⟨0, .slice none 0 0, by omega, rfl, rfl, ⟨World.ownsRow_nil _ _ _ _, HBh.out.size⟩, HBh.out, HIh.out⟩
    case round =>
      obtain ⟨k, u, hk, rfl, rfl, HR, HB, HI⟩ := hrel
      by_cases hkn : k < n
      · have i1 : (k : Int) < (n : Int) := by omega
        obtain ⟨g, had, hcp, O⟩ := HI.out.at HN.out (by omega)
        subst had
        have cx : wr.cell? ⟨g, k, none⟩ = some (.int .i64 (L.getD k 0)) := O.cell k hkn
        have HST : Hid (srt (L.take (k + 1)) = insU (L.getD k 0) (srt (L.take k))) := srt_take L k (by rw [HN.out]; exact hkn)
        have hml : (srt (L.take k)).length ≤ 3 := by
          have := srt_len (L.take k)
          simp at this
          omega
        have HRR := HR.out
        have HB0 : Hid (w.heap.size ≤ wr.heap.size) := HB.out.size
        clear O HR
        generalize L.getD k 0 = y at cx HST
        generalize srt (L.take k) = M at HRR HST hml
        rcases ri_cases HRR with ⟨rfl, rfl⟩ | ⟨g2, c2, rfl, hc2, hg2, CM⟩
        · have HU : Hid (insU y [] = [y]) := rfl
          go_wp2
          refine wp_loop_rounds 1 ?_
          rw [rounds_succ]
          go_upto_region 24 with (at_builtin; refine wpList_append_own_none rfl _ _ 45 rfl wr.heap.size 3 i3 1 Tryd.underlying45 hi3 _ _ _ rfl (World.ownsRow_nil _ _ _ _) rfl ?_)
          have S1 : Hid (wr.heap.size ≤ (wr.alloc (.cells #[.int .i64 y] 3)).heap.size) := (alloc_b (v := wr) (o := .cells #[.int .i64 y] 3)).size
          go_wp2_with (at_builtin; refine wpList_append_own _ rfl _ _ 45 rfl wr.heap.size 3 i3 (.int .i64 0) 1 8 Tryd.underlying45 hi3 hz30 hz31 hz32 rfl (by decide) _ _ _ rfl (World.ownsRow_nil _ _ _ _) ⟨wr.heap.size, 0, none⟩ 1 1 [.int .i64 y] rfl rfl (one_new y) (one_one y) (by unfold maxLen; omega) (by omega) S1.out ?_)
          intro v2 w2 H2 G2 N2
          have B2 : Hid (Below wr.heap.size wr w2) := ((Below.refl _ _).alloc (Nat.le_refl _) _).grown G2 S1.out (fun g hg => by cases hg)
          have H2h : Hid (w2.ownsRow wr.heap.size 3 1 v2 1 [.int .i64 y]) := H2
          have H3h : Hid (Ri w.heap.size w2 v2 (insU y [])) := ri_of H2 HB0.out B2.out.size rfl rfl
          clear H2 G2 N2 S1
          go_wp2_with (at_builtin; refine wpList_append_own_none rfl _ _ 45 rfl wr.heap.size 3 i3 1 Tryd.underlying45 hi3 _ _ _ rfl H2h.out rfl ?_)
          go_wp2
          go_roundw
          case rel => exact ⟨k + 1, _, hkn, by go_num, rfl, by show Ri _ _ _ _; rw [HST.out]; exact H3h.out, HB.out.trans (B2.out.mono HB0.out), HI.out.next B2.out⟩
          case measure => simp [intOf]; omega
        · obtain ⟨m, hm⟩ : ∃ m, M.length = m := ⟨_, rfl⟩
          have HM : Hid (M.length = m) := hm
          rw [hm] at hml hc2 CM ⊢
          have HCM : Hid (∀ i, i < m → wr.cell? ⟨g2, i, none⟩ = some (.int .i64 (M.getD i 0))) := CM
          have HRh : Hid (Ri w.heap.size wr (.slice (some ⟨g2, 0, none⟩) m c2) M) := by have := HRR; rw [hm] at this; exact this
          clear HRR hm CM
          go_wp2
          go_loop [7] (fun i => ∃ p : Nat, p ≤ m ∧ i = .int .i64 p ∧ Hid (∀ i, i < p → M.getD i 0 < y)) (fun i => m - (intOf i).toNat)
          case atStart => exact ⟨0, by omega, rfl, fun i hi => absurd hi (by omega)⟩
          case round =>
            obtain ⟨p, hp, rfl, HLT⟩ := hrel
            by_cases hpm : p < m
            · have i2 : (p : Int) < (m : Int) := by omega
              have cz := HCM.out p hpm
              obtain ⟨z, hz⟩ : ∃ z, M.getD p 0 = z := ⟨_, rfl⟩
              have HZ : Hid (M.getD p 0 = z) := hz
              rw [hz] at cz
              clear hz
              rcases Int.lt_trichotomy z y with hzy | hzy | hzy
              · go_wp2
                go_round
                case rel => exact ⟨p + 1, hpm, by go_num, lt_snoc HLT.out HZ.out hzy⟩
                case measure => simp [intOf]; omega
              · have hzy' : ¬ z < y := by omega
                have HE : Hid (insU y M = M) := insU_same y M p (by rw [HM.out]; exact hpm) HLT.out (by rw [HZ.out]; exact hzy)
                subst hzy
                go_wp2
                go_roundw
                case rel => exact ⟨k + 1, _, hkn, by go_num, rfl, by show Ri _ _ _ _; rw [HST.out, HE.out]; exact HRh.out, HB.out, HI.out⟩
                case measure => simp [intOf]; omega
              · have hzy' : ¬ z < y := by omega
                have hzy'' : ¬ z = y := by omega
                have q1 : p ≤ c2 := by omega
                have q2 : ¬ c2 < p := by omega
                have q3 : ¬ c2 - p = 0 := by omega
                have q4 : ¬ c2 = p := by omega
                have q5 : (p : Int) ≤ (c2 : Int) := by omega
                have q6 : (p : Int) ≤ (m : Int) := by omega
                have q7 : (m : Int) ≤ (c2 : Int) := by omega
                have HU : Hid (insU y M = M.take p ++ (y :: M.drop p)) := insU_at y M p (by rw [HM.out]; omega) HLT.out (fun _ => by rw [HZ.out]; exact hzy)
                have L1 : Hid ((il (M.take p)).length = p * 1) := by show _ = _; simp [il, HM.out]; omega
                have L3 : Hid ((il (M.drop p)).length = (m - p) * 1) := by show _ = _; simp [il, HM.out]
                have HC1 := cells_take HCM.out HM.out hp
                have HC1h : Hid (∀ j u, (il (M.take p))[j]? = some u → wr.cell? ((⟨g2, 0, none⟩ : Addr).add j) = some u) := HC1
                clear HC1
                have hml' : m ≤ 3 := hml
                go_wp2_with (at_builtin; refine wpList_append_own _ rfl _ _ 45 rfl wr.heap.size 3 i3 (.int .i64 0) 1 8 Tryd.underlying45 hi3 hz30 hz31 hz32 rfl (by decide) _ _ _ rfl (World.ownsRow_nil _ _ _ _) ⟨g2, 0, none⟩ p c2 (il (M.take p)) rfl L1.out HC1h.out (il_one _) (by unfold maxLen; omega) (by omega) (Nat.le_refl _) ?_)
                intro v1 w1 H1 G1 N1
                have B1 : Hid (Below wr.heap.size wr w1) := (Below.refl _ _).grown G1 (Nat.le_refl _) (fun g hg => by cases hg)
                have H1h : Hid (w1.ownsRow wr.heap.size 3 1 v1 p (il (M.take p))) := H1
                clear H1 G1 N1
                have S1 : Hid (wr.heap.size ≤ (w1.alloc (.cells #[.int .i64 y] 3)).heap.size) := Nat.le_trans B1.out.size (alloc_b (v := w1) (o := .cells #[.int .i64 y] 3)).size
                go_wp2_with (at_builtin; refine wpList_append_own _ rfl _ _ 45 rfl wr.heap.size 3 i3 (.int .i64 0) 1 8 Tryd.underlying45 hi3 hz30 hz31 hz32 rfl (by decide) _ _ _ rfl (H1h.out.alloc _) ⟨w1.heap.size, 0, none⟩ 1 1 [.int .i64 y] rfl rfl (one_new y) (one_one y) (by unfold maxLen; omega) (by omega) S1.out ?_)
                intro v2 w2 H2 G2 N2
                have B2 : Hid (Below wr.heap.size wr w2) := (B1.out.alloc B1.out.size _).grown G2 S1.out (fun g hg => (H1h.out.lt g hg).1)
                have H2h : Hid (w2.ownsRow wr.heap.size 3 1 v2 (p + 1) (il (M.take p) ++ [.int .i64 y])) := H2
                clear H2 G2 N2 S1
                have HC3 : Hid (∀ j u, (il (M.drop p))[j]? = some u → w2.cell? ((⟨g2, p, none⟩ : Addr).add j) = some u) := cells_drop (fun i hi => cell_next (HCM.out i hi) B2.out) HM.out
                go_wp2_with (at_builtin; refine wpList_append_own _ rfl _ _ 45 rfl wr.heap.size 3 i3 (.int .i64 0) 1 8 Tryd.underlying45 hi3 hz30 hz31 hz32 rfl (by decide) _ _ _ rfl H2h.out ⟨g2, p, none⟩ (m - p) (c2 - p) (il (M.drop p)) rfl L3.out HC3.out (il_one _) (by unfold maxLen; omega) (by omega) B2.out.size ?_)
                intro v3 w3 H3 G3 N3
                have B3 : Hid (Below wr.heap.size wr w3) := B2.out.grown G3 B2.out.size (fun g hg => (H2h.out.lt g hg).1)
                have H3h : Hid (Ri w.heap.size w3 v3 (insU y M)) := by show Ri _ _ _ _; rw [HU.out]; exact ri_of H3 HB0.out B3.out.size (by simp [HM.out]; omega) (by simp [il])
                clear H3 G3 N3
                go_wp2
                go_roundw
                case rel => exact ⟨k + 1, _, hkn, by go_num, rfl, by show Ri _ _ _ _; rw [HST.out]; exact H3h.out, HB.out.trans (B3.out.mono HB0.out), HI.out.next B3.out⟩
                case measure => simp [intOf]; omega
            · obtain rfl : p = m := by omega
              have HU : Hid (insU y M = M ++ [y]) := by
                have h := insU_at y M p (by rw [HM.out]; omega) HLT.out (fun h => absurd h (by rw [HM.out]; omega))
                rw [List.take_of_length_le (by rw [HM.out]; omega), List.drop_eq_nil_of_le (by rw [HM.out]; omega)] at h
                exact h
              have i2 : ¬ (p : Int) < (p : Int) := by omega
              have L1 : Hid ((il M).length = p * 1) := by show _ = _; simp [il, HM.out]
              have HC1h : Hid (∀ j u, (il M)[j]? = some u → wr.cell? ((⟨g2, 0, none⟩ : Addr).add j) = some u) := il_cells fun i hi => by rw [Nat.zero_add]; exact HCM.out i (by rw [HM.out] at hi; exact hi)
              have q1 : p ≤ c2 := hc2
              have q2 : ¬ c2 < p := by omega
              have q5 : (p : Int) ≤ (c2 : Int) := by omega
              by_cases hcm : c2 = p
              · subst hcm
                go_wp2_with (at_builtin; refine wpList_append_own _ rfl _ _ 45 rfl wr.heap.size 3 i3 (.int .i64 0) 1 8 Tryd.underlying45 hi3 hz30 hz31 hz32 rfl (by decide) _ _ _ rfl (World.ownsRow_nil _ _ _ _) ⟨g2, 0, none⟩ c2 c2 (il M) rfl L1.out HC1h.out (il_one _) (by unfold maxLen; omega) (by omega) (Nat.le_refl _) ?_)
                intro v1 w1 H1 G1 N1
                have B1 : Hid (Below wr.heap.size wr w1) := (Below.refl _ _).grown G1 (Nat.le_refl _) (fun g hg => by cases hg)
                have H1h : Hid (w1.ownsRow wr.heap.size 3 1 v1 c2 (il M)) := H1
                clear H1 G1 N1
                have S1 : Hid (wr.heap.size ≤ (w1.alloc (.cells #[.int .i64 y] 3)).heap.size) := Nat.le_trans B1.out.size (alloc_b (v := w1) (o := .cells #[.int .i64 y] 3)).size
                go_wp2_with (at_builtin; refine wpList_append_own _ rfl _ _ 45 rfl wr.heap.size 3 i3 (.int .i64 0) 1 8 Tryd.underlying45 hi3 hz30 hz31 hz32 rfl (by decide) _ _ _ rfl (H1h.out.alloc _) ⟨w1.heap.size, 0, none⟩ 1 1 [.int .i64 y] rfl rfl (one_new y) (one_one y) (by unfold maxLen; omega) (by omega) S1.out ?_)
                intro v2 w2 H2 G2 N2
                have B2 : Hid (Below wr.heap.size wr w2) := (B1.out.alloc B1.out.size _).grown G2 S1.out (fun g hg => (H1h.out.lt g hg).1)
                have H2h : Hid (w2.ownsRow wr.heap.size 3 1 v2 (c2 + 1) (il M ++ [.int .i64 y])) := H2
                clear H2 G2 N2 S1
                go_wp2_with (at_builtin; refine wpList_append_own _ rfl _ _ 45 rfl wr.heap.size 3 i3 (.int .i64 0) 1 8 Tryd.underlying45 hi3 hz30 hz31 hz32 rfl (by decide) _ _ _ rfl H2h.out ⟨g2, 0, none⟩ 0 0 [] rfl rfl (fun j u hj => by simp at hj) (fun u hu => by simp at hu) (by unfold maxLen; omega) (by omega) B2.out.size ?_)
                intro v3 w3 H3 G3 N3
                have B3 : Hid (Below wr.heap.size wr w3) := B2.out.grown G3 B2.out.size (fun g hg => (H2h.out.lt g hg).1)
                have H3h : Hid (Ri w.heap.size w3 v3 (insU y M)) := by show Ri _ _ _ _; rw [HU.out]; exact ri_of H3 HB0.out B3.out.size (by simp [HM.out]) (by simp [il])
                clear H3 G3 N3
                go_wp2
                go_roundw
                case rel => exact ⟨k + 1, _, hkn, by go_num, rfl, by show Ri _ _ _ _; rw [HST.out]; exact H3h.out, HB.out.trans (B3.out.mono HB0.out), HI.out.next B3.out⟩
                case measure => simp [intOf]; omega
              · have q3 : ¬ c2 - p = 0 := by omega
                go_wp2_with (at_builtin; refine wpList_append_own _ rfl _ _ 45 rfl wr.heap.size 3 i3 (.int .i64 0) 1 8 Tryd.underlying45 hi3 hz30 hz31 hz32 rfl (by decide) _ _ _ rfl (World.ownsRow_nil _ _ _ _) ⟨g2, 0, none⟩ p c2 (il M) rfl L1.out HC1h.out (il_one _) (by unfold maxLen; omega) (by omega) (Nat.le_refl _) ?_)
                intro v1 w1 H1 G1 N1
                have B1 : Hid (Below wr.heap.size wr w1) := (Below.refl _ _).grown G1 (Nat.le_refl _) (fun g hg => by cases hg)
                have H1h : Hid (w1.ownsRow wr.heap.size 3 1 v1 p (il M)) := H1
                clear H1 G1 N1
                have S1 : Hid (wr.heap.size ≤ (w1.alloc (.cells #[.int .i64 y] 3)).heap.size) := Nat.le_trans B1.out.size (alloc_b (v := w1) (o := .cells #[.int .i64 y] 3)).size
                go_wp2_with (at_builtin; refine wpList_append_own _ rfl _ _ 45 rfl wr.heap.size 3 i3 (.int .i64 0) 1 8 Tryd.underlying45 hi3 hz30 hz31 hz32 rfl (by decide) _ _ _ rfl (H1h.out.alloc _) ⟨w1.heap.size, 0, none⟩ 1 1 [.int .i64 y] rfl rfl (one_new y) (one_one y) (by unfold maxLen; omega) (by omega) S1.out ?_)
                intro v2 w2 H2 G2 N2
                have B2 : Hid (Below wr.heap.size wr w2) := (B1.out.alloc B1.out.size _).grown G2 S1.out (fun g hg => (H1h.out.lt g hg).1)
                have H2h : Hid (w2.ownsRow wr.heap.size 3 1 v2 (p + 1) (il M ++ [.int .i64 y])) := H2
                clear H2 G2 N2 S1
                go_wp2_with (at_builtin; refine wpList_append_own _ rfl _ _ 45 rfl wr.heap.size 3 i3 (.int .i64 0) 1 8 Tryd.underlying45 hi3 hz30 hz31 hz32 rfl (by decide) _ _ _ rfl H2h.out ⟨g2, p, none⟩ 0 (c2 - p) [] rfl rfl (fun j u hj => by simp at hj) (fun u hu => by simp at hu) (by unfold maxLen; omega) (by omega) B2.out.size ?_)
                intro v3 w3 H3 G3 N3
                have B3 : Hid (Below wr.heap.size wr w3) := B2.out.grown G3 B2.out.size (fun g hg => (H2h.out.lt g hg).1)
                have H3h : Hid (Ri w.heap.size w3 v3 (insU y M)) := by show Ri _ _ _ _; rw [HU.out]; exact ri_of H3 HB0.out B3.out.size (by simp [HM.out]) (by simp [il])
                clear H3 G3 N3
                go_wp2
                go_roundw
                case rel => exact ⟨k + 1, _, hkn, by go_num, rfl, by show Ri _ _ _ _; rw [HST.out]; exact H3h.out, HB.out.trans (B3.out.mono HB0.out), HI.out.next B3.out⟩
                case measure => simp [intOf]; omega
      · have i1 : ¬ (k : Int) < (n : Int) := by omega
        obtain rfl : k = n := by omega
        have HT : Hid (L.take k = L) := List.take_of_length_le (by rw [HN.out]; omega)
        go_wp2
        go_ret
        exact ⟨_, rfl, by have h := HR.out; rw [HT.out] at h; exact h, HB.out⟩
end Go.Proofs.YtcgapochcahknaaDoor
