/- The model's AllocHolds. The program's AllocHolds. The law's own helpers for an alloc: how much it holds, a copy of it, two of them compared. The walk of the law of AllocHolds. -/
import Derived.Test.YtmeokhppaekhpaaGreatDoorHlr
import Derived.Test.YtmeokhppaekhpaaGreatDoorLiv
import Derived.Deep.RegionHeld
import Derived.Test.YtmeokhppaekhpaaGreatDoorIss
import Derived.Test.YtmeokhppaekhpaaGreatDoorCll
namespace Go.Proofs.YtmeokhppaekhpaaGreatDoor
open Go.ChangeShapes Go.WideShapes Go.ChangeAt Go.RowKit
set_option linter.unusedVariables false
theorem lsm (S : Nat → Bool) (R : Nat) (y : Int) : y ∈ lsF S R ↔ 0 ≤ y ∧ y < R ∧ S y.toNat = true := by
  have : ∀ n, lsF S n = whL S n := fun n => by
    induction n with
    | zero => rfl
    | succ n ih => rw [lsF, whL, ih]
  rw [this]
  exact whL_mem S y R
def Cd.gd (c : Cd) : Bool := goodC c.O c.D c.A c.B c.C c.X c.n
/-- Of good code and places that may be, an alloc that holds. -/
def AhP (c : Cd) (m : Nat) (W : Nat → Int) (Kp S pl : Int) : Prop := c.gd = true ∧ 1 ≤ pl ∧ pl ≤ 64 ∧ HoldsP c c.R c.n m W Kp S pl
noncomputable def ahB (c : Cd) (m : Nat) (W : Nat → Int) (Kp S pl : Int) : Bool := @decide (AhP c m W Kp S pl) (Classical.propDecidable _)
theorem ah_no {c : Cd} {m : Nat} {W : Nat → Int} {Kp S pl : Int} (h : ¬ AhP c m W Kp S pl) : ahB c m W Kp S pl = false := @decide_eq_false _ (Classical.propDecidable _) h
theorem ah_yes {c : Cd} {m : Nat} {W : Nat → Int} {Kp S pl : Int} (h : AhP c m W Kp S pl) : ahB c m W Kp S pl = true := @decide_eq_true _ (Classical.propDecidable _) h
set_option maxRecDepth 100000 in
set_option maxHeartbeats 4000000 in
theorem holds16 (n a cap : Nat) (c : Cd) (hn : c.n = n) (ad : Option Addr) (m cp : Nat) (W : Nat → Int) (Kp S pl : Int) (w : World) (RI : RowI w a n c.O c.D c.A c.B c.C c.X) (hX : Wds c.X c.n) (n1 : n ≤ 1048576) (hm : m ≤ 1048576) (hW : WRow w ad m W) : Calls Tryz.prog 16 #[.slice (some ⟨a, 0, none⟩) n cap, .agg #[.slice ad m cp, .int .i64 Kp, .int .i64 S], .int .i64 pl] w fun e w' => e = .returned (.bool (ahB c m W Kp S pl)) ∧ Below w.heap.size w w' := by
  obtain ⟨V, hV⟩ : ∃ V, w.alloc (.cells #[.slice ad m cp, .int .i64 Kp, .int .i64 S] 26) = V := ⟨_, rfl⟩
  have BV : Below w.heap.size w V := by rw [← hV]; exact (Below.refl _ _).alloc (Nat.le_refl _) _
  have D0 : V.cell? ⟨w.heap.size, 0, none⟩ = some (.slice ad m cp) := by rw [← hV]; simp
  have D1 : V.cell? ⟨w.heap.size, 1, none⟩ = some (.int .i64 Kp) := by rw [← hV]; simp
  have D2 : V.cell? ⟨w.heap.size, 2, none⟩ = some (.int .i64 S) := by rw [← hV]; simp
  have h22 := good9 n a cap c.O c.D c.A c.B c.C c.X V (RI.next BV) (by rw [← hn]; exact hX) n1
  have HBV := Hid.mk' BV
  have HN : Hid (¬ AhP c m W Kp S pl → ahB c m W Kp S pl = false) := ah_no
  have HY : Hid (AhP c m W Kp S pl → ahB c m W Kp S pl = true) := ah_yes
  generalize ahB c m W Kp S pl = res at HN HY ⊢
  cases hg : c.gd
  · have hgN : goodC c.O c.D c.A c.B c.C c.X n = false := by rw [← hn]; exact hg
    obtain rfl := HN.out (fun h => by have := h.1; rw [hg] at this; cases this)
    rw [hgN] at h22
    clear hg hgN RI hX hW BV
    go_enter Tryz.func16, Tryz.ntmps16
    go_wp2_with (go_at_call 22; refine h22.mono ?_; rintro e w1 ⟨rfl, B1⟩)
    go_ret
    exact ⟨rfl, HBV.out.trans (B1.mono HBV.out.size)⟩
  have hg0 : goodC c.O c.D c.A c.B c.C c.X c.n = true := hg
  have hgN : goodC c.O c.D c.A c.B c.C c.X n = true := by rw [← hn]; exact hg0
  rw [hgN] at h22
  by_cases p1 : 1 ≤ pl
  case neg =>
    obtain rfl := HN.out (fun h => p1 h.2.1)
    clear hg hgN RI hX hW BV hg0
    go_enter Tryz.func16, Tryz.ntmps16
    go_wp2_with (go_at_call 22; refine h22.mono ?_; rintro e w1 ⟨rfl, B1⟩)
    go_ret
    exact ⟨rfl, HBV.out.trans (B1.mono HBV.out.size)⟩
  by_cases p2 : pl ≤ 64
  case neg =>
    obtain rfl := HN.out (fun h => p2 h.2.2.1)
    clear hg hgN RI hX hW BV hg0
    go_enter Tryz.func16, Tryz.ntmps16
    go_wp2_with (go_at_call 22; refine h22.mono ?_; rintro e w1 ⟨rfl, B1⟩)
    go_ret
    exact ⟨rfl, HBV.out.trans (B1.mono HBV.out.size)⟩
  obtain ⟨K, hD, hR⟩ := lvok_of hg0 hX
  have h34 : ∀ v, Below V.heap.size V v → Calls Tryz.prog 34 #[.slice (some ⟨a, 0, none⟩) n cap, .agg #[.slice ad m cp, .int .i64 Kp, .int .i64 S], .int .i64 pl] v fun e w' => e = .returned (.bool res) ∧ Below v.heap.size v w' := fun v b => by
    have B2 := BV.trans (b.mono BV.size)
    have hr : res = hldB c c.R n m W Kp S pl := by
      by_cases q : HoldsP c c.R n m W Kp S pl
      · rw [hld_yes q]; exact HY.out ⟨hg, p1, p2, by rw [hn]; exact q⟩
      · rw [hld_no q]; exact HN.out (fun h => q (by have := h.2.2.2; rw [hn] at this; exact this))
    rw [hr]
    exact holds34 n a cap c.R c v K.r1 ad m cp W Kp S pl hm (hW.next B2) (fun v' b' => clashes45 n a cap c.R c K (by rw [← hn]; exact hD) v' hn (RI.next (B2.trans (b'.mono B2.size))) (fun v'' b'' => (regs36 n a cap c.O c.D c.A c.B c.C c.X v'' (RI.next ((B2.trans (b'.mono B2.size)).trans (b''.mono (B2.trans (b'.mono B2.size)).size))) (by rw [← hn]; exact hX) (goodC_bds hgN).1 hgN (goodC_bds hgN).2.2).mono fun e w' ⟨h1, h2⟩ => ⟨by rw [h1, hR, hn], h2⟩))
  clear hg hgN RI hX hW BV hg0 K hD hR HN HY
  go_enter Tryz.func16, Tryz.ntmps16
  go_wp2_with (first | (go_at_call 22; refine h22.mono ?_; rintro e w1 ⟨rfl, B1⟩; (have E0 := cell_nx D0 B1); (have E1 := cell_nx D1 B1); (have E2 := cell_nx D2 B1)) | (go_at_call 34; refine (h34 w1 B1).mono ?_; rintro e w2 ⟨rfl, B2⟩))
  go_ret
  have B3 := HBV.out.trans (B1.mono HBV.out.size)
  exact ⟨rfl, B3.trans (B2.mono B3.size)⟩
end Go.Proofs.YtmeokhppaekhpaaGreatDoor
namespace Go.Proofs.YtmeokhppaekhpaaGreatDoor
open Go.ChangeShapes Go.WideShapes Go.ChangeAt Go.RowKit
set_option linter.unusedVariables false
theorem step_callW {P : Program} {ops : Array Oper} {o : Oper} {a : Act} {w : World} {K : Act → World → Prop} {Q : Exit → Act → World → Prop} {E : Prop} (f : FuncId) (args : Array Value) (R : Value → World → World → Prop) (hw : Region.wanted o (yielded ops a.tmps) = true) (hrun : (execOp a.eval o).run P w = .ok (.enter f args) w) (h : Calls P f args w fun e w' => ∃ v, e = .returned v ∧ R v w w') (hK : ∀ v w', R v w w' → K (a.put o.dst v) w') : if Region.wanted o (yielded ops a.tmps) = true then Oper.wp P o a w K Q else E := by
  rw [if_pos hw]
  unfold Oper.wp
  rw [hrun, Oper.upon_enter]
  refine h.mono ?_
  rintro e w' ⟨v, rfl, hR⟩
  exact hK v w' hR
/-- The alloc's box. -/
structure Bx (q : Nat) (ad : Option Addr) (m cp : Nat) (Kp S : Int) (v : World) : Prop where
  c0 : v.cell? ⟨q, 0, none⟩ = some (.slice ad m cp)
  c1 : v.cell? ⟨q, 1, none⟩ = some (.int .i64 Kp)
  c2 : v.cell? ⟨q, 2, none⟩ = some (.int .i64 S)
theorem Bx.next {q : Nat} {ad : Option Addr} {m cp : Nat} {Kp S : Int} {v v' : World} (h : Bx q ad m cp Kp S v) (b : Below v.heap.size v v') : Bx q ad m cp Kp S v' := ⟨cell_nx h.c0 b, cell_nx h.c1 b, cell_nx h.c2 b⟩
set_option maxRecDepth 100000 in
set_option maxHeartbeats 8000000 in
theorem holds18 (n a cap : Nat) (c : Cd) (hn : c.n = n) (ad : Option Addr) (m cp : Nat) (W : Nat → Int) (Kp S pl : Int) (w : World) (G : Forms w) (RI : RowI w a n c.O c.D c.A c.B c.C c.X) (hX : Wds c.X c.n) (n1 : n ≤ 1048576) (hm : m ≤ 1048576) (hr : ∀ i, i < m → -9223372036854775808 ≤ W i ∧ W i ≤ 9223372036854775807) (hW : WRow w ad m W)
    (h54 : goodC c.O c.D c.A c.B c.C c.X c.n = true → ∀ v, Below w.heap.size w v → Calls Tryz.prog 54 #[.slice (some ⟨a, 0, none⟩) n cap] v fun e w' => ∃ u, e = .returned u ∧ ARows w' u c.R (fun x => lsF (clB c c.R n x) c.R) ∧ Below v.heap.size v w') : Calls Tryz.prog 18 #[.slice (some ⟨a, 0, none⟩) n cap, .agg #[.slice ad m cp, .int .i64 Kp, .int .i64 S], .int .i64 pl] w fun e w' => e = .returned (.bool (ahB c m W Kp S pl)) ∧ Below w.heap.size w w' := by
  obtain ⟨V, hV⟩ : ∃ V, w.alloc (.cells #[.slice ad m cp, .int .i64 Kp, .int .i64 S] 26) = V := ⟨_, rfl⟩
  have BV : Below w.heap.size w V := by rw [← hV]; exact (Below.refl _ _).alloc (Nat.le_refl _) _
  have D0 : V.cell? ⟨w.heap.size, 0, none⟩ = some (.slice ad m cp) := by rw [← hV]; simp
  have D1 : V.cell? ⟨w.heap.size, 1, none⟩ = some (.int .i64 Kp) := by rw [← hV]; simp
  have D2 : V.cell? ⟨w.heap.size, 2, none⟩ = some (.int .i64 S) := by rw [← hV]; simp
  have BR : Below V.heap.size V V := Below.refl _ _
  have BD : Below V.heap.size V V.drew := below_drew (Below.refl _ _)
  have h26 : ∀ v, Below V.heap.size V v → Calls Tryz.prog 26 #[.slice (some ⟨a, 0, none⟩) n cap] v fun e w' => e = .returned (.bool (goodC c.O c.D c.A c.B c.C c.X n)) ∧ Below v.heap.size v w' := fun v b => good11 n a cap c.O c.D c.A c.B c.C c.X v (G.below (BV.trans (b.mono BV.size))) (RI.next (BV.trans (b.mono BV.size))) (by rw [← hn]; exact hX) n1
  have HBV := Hid.mk' BV
  have HN : Hid (¬ AhP c m W Kp S pl → ahB c m W Kp S pl = false) := ah_no
  have HY : Hid (AhP c m W Kp S pl → ahB c m W Kp S pl = true) := ah_yes
  generalize ahB c m W Kp S pl = res at HN HY ⊢
  cases hg : c.gd
  · have hgN : goodC c.O c.D c.A c.B c.C c.X n = false := by rw [← hn]; exact hg
    obtain rfl := HN.out (fun h => by have := h.1; rw [hg] at this; cases this)
    rw [hgN] at h26
    clear hg hgN RI hX hW BV h54 G hr HN HY
    go_enter Tryz.func18, Tryz.ntmps18
    go_upto_region 1 with fail
    refine wp_region_held_drew (S := Bx w.heap.size ad m cp Kp S) (by kernel_rfl) (Bx.next ⟨D0, D1, D2⟩ BD) (fun hH => ?_)
    refine wpAnyH_take (i := 0) (oi := { dst := some 7, op := Op.move (Operand.tmp 0), type := 29, pos := "l13_registers.go:54", after := #[], guard := none }) (v := .slice (some ⟨a, 0, none⟩) n cap) rfl (by kernel_rfl) (by kernel_rfl) (by kernel_rfl) (fun _ _ _ h => h) (Or.inl ⟨by rfl, fun w0 hSw => by (obtain ⟨s0, s1, s2⟩ := hSw; go_simp)⟩) hH ?_
    simp only [Act.put, List.setIfInBounds_toArray, List.set_cons_zero, List.set_cons_succ]
    refine wpAnyH_ready (rs := [1]) (by kernel_rfl) (by simp) ?_
    refine (AllReadyH.cons (o := { dst := some 8, op := Op.call { callee := Callee.value (Operand.func 26), args := #[Operand.tmp 7], argTypes := #[29] }, type := 4, pos := "l13_registers.go:54", after := #[{ on := 0, ground := Ground.data }], guard := none }) rfl (fun K hK => ?_) AllReadyH.nil)
    refine step_callW 26 #[.slice (some ⟨a, 0, none⟩) n cap] (fun z v w' => z = .bool false ∧ Below v.heap.size v w') (by rfl) (by go_simp) ((h26 _ BD).mono fun e w' ⟨h1, h2⟩ => ⟨_, h1, rfl, h2⟩) ?_
    rintro zw1 w1 ⟨rfl, Bw1⟩
    simp only [Act.put, List.setIfInBounds_toArray, List.set_cons_zero, List.set_cons_succ]
    refine hK.out _ _ (hH.next Bw1) (fun hH' => ?_)
    clear hK K
    replace hH := hH'
    clear hH'
    have F1 : Below V.heap.size V w1 := BD.trans (Bw1.mono (Nat.le_refl _))
    refine wpAnyH_take (i := 2) (oi := { dst := some 9, op := Op.move (Operand.tmp 8), type := 4, pos := "l13_registers.go:54", after := #[{ on := 1, ground := Ground.data }, { on := 1, ground := Ground.chain }], guard := none }) (v := .bool false) rfl (by kernel_rfl) (by kernel_rfl) (by kernel_rfl) (fun _ _ _ h => h) (Or.inl ⟨by rfl, fun w0 hSw => by (obtain ⟨s0, s1, s2⟩ := hSw; go_simp)⟩) hH ?_
    simp only [Act.put, List.setIfInBounds_toArray, List.set_cons_zero, List.set_cons_succ]
    refine wpAnyH_take (i := 3) (oi := { dst := some 10, op := Op.move (Operand.tmp 2), type := 3, pos := "l13_registers.go:54", after := #[{ on := 2, ground := Ground.guard }], guard := some (2, true) }) (v := undef) rfl (by kernel_rfl) (by kernel_rfl) (by kernel_rfl) (fun _ _ _ h => h) (Or.inr ⟨by rfl, rfl⟩) hH ?_
    simp only [Act.put, List.setIfInBounds_toArray, List.set_cons_zero, List.set_cons_succ]
    refine wpAnyH_take (i := 4) (oi := { dst := some 11, op := Op.call { callee := Callee.value (Operand.func 27), args := #[Operand.tmp 10], argTypes := #[3] }, type := 4, pos := "l13_registers.go:54", after := #[{ on := 3, ground := Ground.data }, { on := 2, ground := Ground.chain }, { on := 2, ground := Ground.guard }], guard := some (2, true) }) (v := undef) rfl (by kernel_rfl) (by kernel_rfl) (by kernel_rfl) (fun _ _ _ h => h) (Or.inr ⟨by rfl, rfl⟩) hH ?_
    simp only [Act.put, List.setIfInBounds_toArray, List.set_cons_zero, List.set_cons_succ]
    refine wpAnyH_take (i := 5) (oi := { dst := some 12, op := Op.pick (Operand.tmp 9) (Operand.tmp 11) (Operand.const (Value.bool false)), type := 4, pos := "l13_registers.go:54", after := #[{ on := 2, ground := Ground.data }, { on := 4, ground := Ground.data }], guard := none }) (v := .bool false) rfl (by kernel_rfl) (by kernel_rfl) (by kernel_rfl) (fun _ _ _ h => h) (Or.inl ⟨by rfl, fun w0 hSw => by (obtain ⟨s0, s1, s2⟩ := hSw; go_simp)⟩) hH ?_
    simp only [Act.put, List.setIfInBounds_toArray, List.set_cons_zero, List.set_cons_succ]
    refine wpAnyH_take (i := 6) (oi := { dst := some 13, op := Op.move (Operand.tmp 12), type := 4, pos := "l13_registers.go:54", after := #[{ on := 5, ground := Ground.data }, { on := 4, ground := Ground.chain }], guard := none }) (v := .bool false) rfl (by kernel_rfl) (by kernel_rfl) (by kernel_rfl) (fun _ _ _ h => h) (Or.inl ⟨by rfl, fun w0 hSw => by (obtain ⟨s0, s1, s2⟩ := hSw; go_simp)⟩) hH ?_
    simp only [Act.put, List.setIfInBounds_toArray, List.set_cons_zero, List.set_cons_succ]
    refine wpAnyH_take (i := 7) (oi := { dst := some 14, op := Op.fieldAddr 26 (Operand.tmp 4) 0, type := 0, pos := "l13_registers.go:54", after := #[{ on := 6, ground := Ground.guard }], guard := some (6, true) }) (v := undef) rfl (by kernel_rfl) (by kernel_rfl) (by kernel_rfl) (fun _ _ _ h => h) (Or.inr ⟨by rfl, rfl⟩) hH ?_
    simp only [Act.put, List.setIfInBounds_toArray, List.set_cons_zero, List.set_cons_succ]
    refine wpAnyH_take (i := 8) (oi := { dst := some 15, op := Op.load 24 (Operand.tmp 14), type := 24, pos := "l13_registers.go:54", after := #[{ on := 7, ground := Ground.data }, { on := 6, ground := Ground.guard }], guard := some (6, true) }) (v := undef) rfl (by kernel_rfl) (by kernel_rfl) (by kernel_rfl) (fun _ _ _ h => h) (Or.inr ⟨by rfl, rfl⟩) hH ?_
    simp only [Act.put, List.setIfInBounds_toArray, List.set_cons_zero, List.set_cons_succ]
    refine wpAnyH_take (i := 9) (oi := { dst := some 16, op := Op.call { callee := Callee.builtin Builtin.len, args := #[Operand.tmp 15], argTypes := #[24] }, type := 3, pos := "l13_registers.go:54", after := #[{ on := 8, ground := Ground.data }, { on := 6, ground := Ground.guard }], guard := some (6, true) }) (v := undef) rfl (by kernel_rfl) (by kernel_rfl) (by kernel_rfl) (fun _ _ _ h => h) (Or.inr ⟨by rfl, rfl⟩) hH ?_
    simp only [Act.put, List.setIfInBounds_toArray, List.set_cons_zero, List.set_cons_succ]
    refine wpAnyH_take (i := 10) (oi := { dst := some 17, op := Op.move (Operand.tmp 0), type := 29, pos := "l13_registers.go:54", after := #[{ on := 6, ground := Ground.guard }], guard := some (6, true) }) (v := undef) rfl (by kernel_rfl) (by kernel_rfl) (by kernel_rfl) (fun _ _ _ h => h) (Or.inr ⟨by rfl, rfl⟩) hH ?_
    simp only [Act.put, List.setIfInBounds_toArray, List.set_cons_zero, List.set_cons_succ]
    refine wpAnyH_take (i := 11) (oi := { dst := some 18, op := Op.call { callee := Callee.value (Operand.func 36), args := #[Operand.tmp 17], argTypes := #[29] }, type := 3, pos := "l13_registers.go:55", after := #[{ on := 10, ground := Ground.data }, { on := 6, ground := Ground.chain }, { on := 6, ground := Ground.guard }], guard := some (6, true) }) (v := undef) rfl (by kernel_rfl) (by kernel_rfl) (by kernel_rfl) (fun _ _ _ h => h) (Or.inr ⟨by rfl, rfl⟩) hH ?_
    simp only [Act.put, List.setIfInBounds_toArray, List.set_cons_zero, List.set_cons_succ]
    refine wpAnyH_take (i := 12) (oi := { dst := some 19, op := Op.binOp BinOp.eql 3 (Operand.tmp 16) (Operand.tmp 18) 3, type := 4, pos := "l13_registers.go:54", after := #[{ on := 9, ground := Ground.data }, { on := 11, ground := Ground.data }, { on := 6, ground := Ground.guard }], guard := some (6, true) }) (v := undef) rfl (by kernel_rfl) (by kernel_rfl) (by kernel_rfl) (fun _ _ _ h => h) (Or.inr ⟨by rfl, rfl⟩) hH ?_
    simp only [Act.put, List.setIfInBounds_toArray, List.set_cons_zero, List.set_cons_succ]
    refine wpAnyH_take (i := 13) (oi := { dst := some 20, op := Op.pick (Operand.tmp 13) (Operand.tmp 19) (Operand.const (Value.bool false)), type := 4, pos := "l13_registers.go:54", after := #[{ on := 6, ground := Ground.data }, { on := 12, ground := Ground.data }], guard := none }) (v := .bool false) rfl (by kernel_rfl) (by kernel_rfl) (by kernel_rfl) (fun _ _ _ h => h) (Or.inl ⟨by rfl, fun w0 hSw => by (obtain ⟨s0, s1, s2⟩ := hSw; go_simp)⟩) hH ?_
    simp only [Act.put, List.setIfInBounds_toArray, List.set_cons_zero, List.set_cons_succ]
    refine wpAnyH_take (i := 14) (oi := { dst := some 21, op := Op.move (Operand.tmp 20), type := 4, pos := "l13_registers.go:54", after := #[{ on := 13, ground := Ground.data }, { on := 11, ground := Ground.chain }], guard := none }) (v := .bool false) rfl (by kernel_rfl) (by kernel_rfl) (by kernel_rfl) (fun _ _ _ h => h) (Or.inl ⟨by rfl, fun w0 hSw => by (obtain ⟨s0, s1, s2⟩ := hSw; go_simp)⟩) hH ?_
    simp only [Act.put, List.setIfInBounds_toArray, List.set_cons_zero, List.set_cons_succ]
    refine wpAnyH_take (i := 15) (oi := { dst := some 22, op := Op.load 26 (Operand.tmp 4), type := 26, pos := "l13_registers.go:54", after := #[{ on := 14, ground := Ground.guard }], guard := some (14, true) }) (v := undef) rfl (by kernel_rfl) (by kernel_rfl) (by kernel_rfl) (fun _ _ _ h => h) (Or.inr ⟨by rfl, rfl⟩) hH ?_
    simp only [Act.put, List.setIfInBounds_toArray, List.set_cons_zero, List.set_cons_succ]
    refine wpAnyH_take (i := 16) (oi := { dst := some 23, op := Op.move (Operand.tmp 2), type := 3, pos := "l13_registers.go:54", after := #[{ on := 14, ground := Ground.guard }], guard := some (14, true) }) (v := undef) rfl (by kernel_rfl) (by kernel_rfl) (by kernel_rfl) (fun _ _ _ h => h) (Or.inr ⟨by rfl, rfl⟩) hH ?_
    simp only [Act.put, List.setIfInBounds_toArray, List.set_cons_zero, List.set_cons_succ]
    refine wpAnyH_take (i := 17) (oi := { dst := some 24, op := Op.call { callee := Callee.value (Operand.func 37), args := #[Operand.tmp 22, Operand.tmp 23], argTypes := #[26, 3] }, type := 4, pos := "l13_registers.go:55", after := #[{ on := 15, ground := Ground.data }, { on := 16, ground := Ground.data }, { on := 14, ground := Ground.chain }, { on := 14, ground := Ground.guard }], guard := some (14, true) }) (v := undef) rfl (by kernel_rfl) (by kernel_rfl) (by kernel_rfl) (fun _ _ _ h => h) (Or.inr ⟨by rfl, rfl⟩) hH ?_
    simp only [Act.put, List.setIfInBounds_toArray, List.set_cons_zero, List.set_cons_succ]
    refine wpAnyH_take (i := 18) (oi := { dst := some 25, op := Op.pick (Operand.tmp 21) (Operand.tmp 24) (Operand.const (Value.bool false)), type := 4, pos := "l13_registers.go:54", after := #[{ on := 14, ground := Ground.data }, { on := 17, ground := Ground.data }], guard := none }) (v := .bool false) rfl (by kernel_rfl) (by kernel_rfl) (by kernel_rfl) (fun _ _ _ h => h) (Or.inl ⟨by rfl, fun w0 hSw => by (obtain ⟨s0, s1, s2⟩ := hSw; go_simp)⟩) hH ?_
    simp only [Act.put, List.setIfInBounds_toArray, List.set_cons_zero, List.set_cons_succ]
    refine wpAnyH_take (i := 19) (oi := { dst := some 26, op := Op.move (Operand.tmp 25), type := 4, pos := "l13_registers.go:54", after := #[{ on := 18, ground := Ground.data }, { on := 17, ground := Ground.chain }], guard := none }) (v := .bool false) rfl (by kernel_rfl) (by kernel_rfl) (by kernel_rfl) (fun _ _ _ h => h) (Or.inl ⟨by rfl, fun w0 hSw => by (obtain ⟨s0, s1, s2⟩ := hSw; go_simp)⟩) hH ?_
    simp only [Act.put, List.setIfInBounds_toArray, List.set_cons_zero, List.set_cons_succ]
    refine wpAnyH_take (i := 20) (oi := { dst := some 27, op := Op.move (Operand.tmp 0), type := 29, pos := "l13_registers.go:54", after := #[{ on := 19, ground := Ground.guard }], guard := some (19, true) }) (v := undef) rfl (by kernel_rfl) (by kernel_rfl) (by kernel_rfl) (fun _ _ _ h => h) (Or.inr ⟨by rfl, rfl⟩) hH ?_
    simp only [Act.put, List.setIfInBounds_toArray, List.set_cons_zero, List.set_cons_succ]
    refine wpAnyH_take (i := 21) (oi := { dst := some 28, op := Op.fieldAddr 26 (Operand.tmp 4) 0, type := 0, pos := "l13_registers.go:54", after := #[{ on := 19, ground := Ground.guard }], guard := some (19, true) }) (v := undef) rfl (by kernel_rfl) (by kernel_rfl) (by kernel_rfl) (fun _ _ _ h => h) (Or.inr ⟨by rfl, rfl⟩) hH ?_
    simp only [Act.put, List.setIfInBounds_toArray, List.set_cons_zero, List.set_cons_succ]
    refine wpAnyH_take (i := 22) (oi := { dst := some 29, op := Op.load 24 (Operand.tmp 28), type := 24, pos := "l13_registers.go:54", after := #[{ on := 21, ground := Ground.data }, { on := 19, ground := Ground.guard }], guard := some (19, true) }) (v := undef) rfl (by kernel_rfl) (by kernel_rfl) (by kernel_rfl) (fun _ _ _ h => h) (Or.inr ⟨by rfl, rfl⟩) hH ?_
    simp only [Act.put, List.setIfInBounds_toArray, List.set_cons_zero, List.set_cons_succ]
    refine wpAnyH_take (i := 23) (oi := { dst := some 30, op := Op.call { callee := Callee.value (Operand.func 38), args := #[Operand.tmp 27, Operand.tmp 29], argTypes := #[55, 24] }, type := 4, pos := "l13_registers.go:55", after := #[{ on := 20, ground := Ground.data }, { on := 22, ground := Ground.data }, { on := 19, ground := Ground.chain }, { on := 19, ground := Ground.guard }], guard := some (19, true) }) (v := undef) rfl (by kernel_rfl) (by kernel_rfl) (by kernel_rfl) (fun _ _ _ h => h) (Or.inr ⟨by rfl, rfl⟩) hH ?_
    simp only [Act.put, List.setIfInBounds_toArray, List.set_cons_zero, List.set_cons_succ]
    refine wpAnyH_take (i := 24) (oi := { dst := some 31, op := Op.pick (Operand.tmp 26) (Operand.tmp 30) (Operand.const (Value.bool false)), type := 4, pos := "l13_registers.go:54", after := #[{ on := 19, ground := Ground.data }, { on := 23, ground := Ground.data }], guard := none }) (v := .bool false) rfl (by kernel_rfl) (by kernel_rfl) (by kernel_rfl) (fun _ _ _ h => h) (Or.inl ⟨by rfl, fun w0 hSw => by (obtain ⟨s0, s1, s2⟩ := hSw; go_simp)⟩) hH ?_
    simp only [Act.put, List.setIfInBounds_toArray, List.set_cons_zero, List.set_cons_succ]
    refine wpAnyH_take (i := 25) (oi := { dst := some 6, op := Op.assign (Operand.tmp 31), type := 4, pos := "l13_registers.go:54", after := #[{ on := 24, ground := Ground.data }, { on := 23, ground := Ground.chain }, { on := 0, ground := Ground.phase }, { on := 1, ground := Ground.phase }, { on := 2, ground := Ground.phase }, { on := 3, ground := Ground.phase }, { on := 4, ground := Ground.phase }, { on := 5, ground := Ground.phase }, { on := 6, ground := Ground.phase }, { on := 7, ground := Ground.phase }, { on := 8, ground := Ground.phase }, { on := 9, ground := Ground.phase }, { on := 10, ground := Ground.phase }, { on := 11, ground := Ground.phase }, { on := 12, ground := Ground.phase }, { on := 13, ground := Ground.phase }, { on := 14, ground := Ground.phase }, { on := 15, ground := Ground.phase }, { on := 16, ground := Ground.phase }, { on := 17, ground := Ground.phase }, { on := 18, ground := Ground.phase }, { on := 19, ground := Ground.phase }, { on := 20, ground := Ground.phase }, { on := 21, ground := Ground.phase }, { on := 22, ground := Ground.phase }, { on := 23, ground := Ground.phase }, { on := 24, ground := Ground.phase }], guard := none }) (v := .bool false) rfl (by kernel_rfl) (by kernel_rfl) (by kernel_rfl) (fun _ _ _ h => h) (Or.inl ⟨by rfl, fun w0 hSw => by (obtain ⟨s0, s1, s2⟩ := hSw; go_simp)⟩) hH ?_
    simp only [Act.put, List.setIfInBounds_toArray, List.set_cons_zero, List.set_cons_succ]
    refine wpAnyH_done (by kernel_rfl) ?_ _
    clear hH
    go_wp2
    go_ret
    exact ⟨rfl, HBV.out.trans (F1.mono HBV.out.size)⟩
  have hg0 : goodC c.O c.D c.A c.B c.C c.X c.n = true := hg
  have hgN : goodC c.O c.D c.A c.B c.C c.X n = true := by rw [← hn]; exact hg0
  rw [hgN] at h26
  by_cases pp : 1 ≤ pl ∧ pl ≤ 64
  case neg =>
    obtain rfl := HN.out (fun h => pp ⟨h.2.1, h.2.2.1⟩)
    have h27 : ∀ v, Calls Tryz.prog 27 #[.int .i64 pl] v fun e w' => e = .returned (.bool false) ∧ w' = v := fun v => by
      have := goodP27 pl v
      rw [show (decide (1 ≤ pl) && decide (pl ≤ 64)) = false by rw [← Bool.not_eq_true, Bool.and_eq_true, decide_eq_true_eq, decide_eq_true_eq]; exact pp] at this
      exact this
    clear hg hgN RI hX hW BV h54 G hr HN HY hg0 pp
    go_enter Tryz.func18, Tryz.ntmps18
    go_upto_region 1 with fail
    refine wp_region_held_drew (S := Bx w.heap.size ad m cp Kp S) (by kernel_rfl) (Bx.next ⟨D0, D1, D2⟩ BD) (fun hH => ?_)
    refine wpAnyH_take (i := 0) (oi := { dst := some 7, op := Op.move (Operand.tmp 0), type := 29, pos := "l13_registers.go:54", after := #[], guard := none }) (v := .slice (some ⟨a, 0, none⟩) n cap) rfl (by kernel_rfl) (by kernel_rfl) (by kernel_rfl) (fun _ _ _ h => h) (Or.inl ⟨by rfl, fun w0 hSw => by (obtain ⟨s0, s1, s2⟩ := hSw; go_simp)⟩) hH ?_
    simp only [Act.put, List.setIfInBounds_toArray, List.set_cons_zero, List.set_cons_succ]
    refine wpAnyH_ready (rs := [1]) (by kernel_rfl) (by simp) ?_
    refine (AllReadyH.cons (o := { dst := some 8, op := Op.call { callee := Callee.value (Operand.func 26), args := #[Operand.tmp 7], argTypes := #[29] }, type := 4, pos := "l13_registers.go:54", after := #[{ on := 0, ground := Ground.data }], guard := none }) rfl (fun K hK => ?_) AllReadyH.nil)
    refine step_callW 26 #[.slice (some ⟨a, 0, none⟩) n cap] (fun z v w' => z = .bool true ∧ Below v.heap.size v w') (by rfl) (by go_simp) ((h26 _ BD).mono fun e w' ⟨h1, h2⟩ => ⟨_, h1, rfl, h2⟩) ?_
    rintro zw1 w1 ⟨rfl, Bw1⟩
    simp only [Act.put, List.setIfInBounds_toArray, List.set_cons_zero, List.set_cons_succ]
    refine hK.out _ _ (hH.next Bw1) (fun hH' => ?_)
    clear hK K
    replace hH := hH'
    clear hH'
    have F1 : Below V.heap.size V w1 := BD.trans (Bw1.mono (Nat.le_refl _))
    refine wpAnyH_take (i := 2) (oi := { dst := some 9, op := Op.move (Operand.tmp 8), type := 4, pos := "l13_registers.go:54", after := #[{ on := 1, ground := Ground.data }, { on := 1, ground := Ground.chain }], guard := none }) (v := .bool true) rfl (by kernel_rfl) (by kernel_rfl) (by kernel_rfl) (fun _ _ _ h => h) (Or.inl ⟨by rfl, fun w0 hSw => by (obtain ⟨s0, s1, s2⟩ := hSw; go_simp)⟩) hH ?_
    simp only [Act.put, List.setIfInBounds_toArray, List.set_cons_zero, List.set_cons_succ]
    refine wpAnyH_take (i := 3) (oi := { dst := some 10, op := Op.move (Operand.tmp 2), type := 3, pos := "l13_registers.go:54", after := #[{ on := 2, ground := Ground.guard }], guard := some (2, true) }) (v := .int .i64 pl) rfl (by kernel_rfl) (by kernel_rfl) (by kernel_rfl) (fun _ _ _ h => h) (Or.inl ⟨by rfl, fun w0 hSw => by (obtain ⟨s0, s1, s2⟩ := hSw; go_simp)⟩) hH ?_
    simp only [Act.put, List.setIfInBounds_toArray, List.set_cons_zero, List.set_cons_succ]
    refine wpAnyH_ready (rs := [4]) (by kernel_rfl) (by simp) ?_
    refine (AllReadyH.cons (o := { dst := some 11, op := Op.call { callee := Callee.value (Operand.func 27), args := #[Operand.tmp 10], argTypes := #[3] }, type := 4, pos := "l13_registers.go:54", after := #[{ on := 3, ground := Ground.data }, { on := 2, ground := Ground.chain }, { on := 2, ground := Ground.guard }], guard := some (2, true) }) rfl (fun K hK => ?_) AllReadyH.nil)
    refine step_callW 27 #[.int .i64 pl] (fun z v w' => z = .bool false ∧ w' = v) (by rfl) (by go_simp) ((h27 _).mono fun e w' ⟨h1, h2⟩ => ⟨_, h1, rfl, h2⟩) ?_
    rintro z27 w27 ⟨rfl, hw27⟩
    subst w27
    simp only [Act.put, List.setIfInBounds_toArray, List.set_cons_zero, List.set_cons_succ]
    refine hK.out _ _ hH (fun hH' => ?_)
    clear hK K hH'
    refine wpAnyH_take (i := 5) (oi := { dst := some 12, op := Op.pick (Operand.tmp 9) (Operand.tmp 11) (Operand.const (Value.bool false)), type := 4, pos := "l13_registers.go:54", after := #[{ on := 2, ground := Ground.data }, { on := 4, ground := Ground.data }], guard := none }) (v := .bool false) rfl (by kernel_rfl) (by kernel_rfl) (by kernel_rfl) (fun _ _ _ h => h) (Or.inl ⟨by rfl, fun w0 hSw => by (obtain ⟨s0, s1, s2⟩ := hSw; go_simp)⟩) hH ?_
    simp only [Act.put, List.setIfInBounds_toArray, List.set_cons_zero, List.set_cons_succ]
    refine wpAnyH_take (i := 6) (oi := { dst := some 13, op := Op.move (Operand.tmp 12), type := 4, pos := "l13_registers.go:54", after := #[{ on := 5, ground := Ground.data }, { on := 4, ground := Ground.chain }], guard := none }) (v := .bool false) rfl (by kernel_rfl) (by kernel_rfl) (by kernel_rfl) (fun _ _ _ h => h) (Or.inl ⟨by rfl, fun w0 hSw => by (obtain ⟨s0, s1, s2⟩ := hSw; go_simp)⟩) hH ?_
    simp only [Act.put, List.setIfInBounds_toArray, List.set_cons_zero, List.set_cons_succ]
    refine wpAnyH_take (i := 7) (oi := { dst := some 14, op := Op.fieldAddr 26 (Operand.tmp 4) 0, type := 0, pos := "l13_registers.go:54", after := #[{ on := 6, ground := Ground.guard }], guard := some (6, true) }) (v := undef) rfl (by kernel_rfl) (by kernel_rfl) (by kernel_rfl) (fun _ _ _ h => h) (Or.inr ⟨by rfl, rfl⟩) hH ?_
    simp only [Act.put, List.setIfInBounds_toArray, List.set_cons_zero, List.set_cons_succ]
    refine wpAnyH_take (i := 8) (oi := { dst := some 15, op := Op.load 24 (Operand.tmp 14), type := 24, pos := "l13_registers.go:54", after := #[{ on := 7, ground := Ground.data }, { on := 6, ground := Ground.guard }], guard := some (6, true) }) (v := undef) rfl (by kernel_rfl) (by kernel_rfl) (by kernel_rfl) (fun _ _ _ h => h) (Or.inr ⟨by rfl, rfl⟩) hH ?_
    simp only [Act.put, List.setIfInBounds_toArray, List.set_cons_zero, List.set_cons_succ]
    refine wpAnyH_take (i := 9) (oi := { dst := some 16, op := Op.call { callee := Callee.builtin Builtin.len, args := #[Operand.tmp 15], argTypes := #[24] }, type := 3, pos := "l13_registers.go:54", after := #[{ on := 8, ground := Ground.data }, { on := 6, ground := Ground.guard }], guard := some (6, true) }) (v := undef) rfl (by kernel_rfl) (by kernel_rfl) (by kernel_rfl) (fun _ _ _ h => h) (Or.inr ⟨by rfl, rfl⟩) hH ?_
    simp only [Act.put, List.setIfInBounds_toArray, List.set_cons_zero, List.set_cons_succ]
    refine wpAnyH_take (i := 10) (oi := { dst := some 17, op := Op.move (Operand.tmp 0), type := 29, pos := "l13_registers.go:54", after := #[{ on := 6, ground := Ground.guard }], guard := some (6, true) }) (v := undef) rfl (by kernel_rfl) (by kernel_rfl) (by kernel_rfl) (fun _ _ _ h => h) (Or.inr ⟨by rfl, rfl⟩) hH ?_
    simp only [Act.put, List.setIfInBounds_toArray, List.set_cons_zero, List.set_cons_succ]
    refine wpAnyH_take (i := 11) (oi := { dst := some 18, op := Op.call { callee := Callee.value (Operand.func 36), args := #[Operand.tmp 17], argTypes := #[29] }, type := 3, pos := "l13_registers.go:55", after := #[{ on := 10, ground := Ground.data }, { on := 6, ground := Ground.chain }, { on := 6, ground := Ground.guard }], guard := some (6, true) }) (v := undef) rfl (by kernel_rfl) (by kernel_rfl) (by kernel_rfl) (fun _ _ _ h => h) (Or.inr ⟨by rfl, rfl⟩) hH ?_
    simp only [Act.put, List.setIfInBounds_toArray, List.set_cons_zero, List.set_cons_succ]
    refine wpAnyH_take (i := 12) (oi := { dst := some 19, op := Op.binOp BinOp.eql 3 (Operand.tmp 16) (Operand.tmp 18) 3, type := 4, pos := "l13_registers.go:54", after := #[{ on := 9, ground := Ground.data }, { on := 11, ground := Ground.data }, { on := 6, ground := Ground.guard }], guard := some (6, true) }) (v := undef) rfl (by kernel_rfl) (by kernel_rfl) (by kernel_rfl) (fun _ _ _ h => h) (Or.inr ⟨by rfl, rfl⟩) hH ?_
    simp only [Act.put, List.setIfInBounds_toArray, List.set_cons_zero, List.set_cons_succ]
    refine wpAnyH_take (i := 13) (oi := { dst := some 20, op := Op.pick (Operand.tmp 13) (Operand.tmp 19) (Operand.const (Value.bool false)), type := 4, pos := "l13_registers.go:54", after := #[{ on := 6, ground := Ground.data }, { on := 12, ground := Ground.data }], guard := none }) (v := .bool false) rfl (by kernel_rfl) (by kernel_rfl) (by kernel_rfl) (fun _ _ _ h => h) (Or.inl ⟨by rfl, fun w0 hSw => by (obtain ⟨s0, s1, s2⟩ := hSw; go_simp)⟩) hH ?_
    simp only [Act.put, List.setIfInBounds_toArray, List.set_cons_zero, List.set_cons_succ]
    refine wpAnyH_take (i := 14) (oi := { dst := some 21, op := Op.move (Operand.tmp 20), type := 4, pos := "l13_registers.go:54", after := #[{ on := 13, ground := Ground.data }, { on := 11, ground := Ground.chain }], guard := none }) (v := .bool false) rfl (by kernel_rfl) (by kernel_rfl) (by kernel_rfl) (fun _ _ _ h => h) (Or.inl ⟨by rfl, fun w0 hSw => by (obtain ⟨s0, s1, s2⟩ := hSw; go_simp)⟩) hH ?_
    simp only [Act.put, List.setIfInBounds_toArray, List.set_cons_zero, List.set_cons_succ]
    refine wpAnyH_take (i := 15) (oi := { dst := some 22, op := Op.load 26 (Operand.tmp 4), type := 26, pos := "l13_registers.go:54", after := #[{ on := 14, ground := Ground.guard }], guard := some (14, true) }) (v := undef) rfl (by kernel_rfl) (by kernel_rfl) (by kernel_rfl) (fun _ _ _ h => h) (Or.inr ⟨by rfl, rfl⟩) hH ?_
    simp only [Act.put, List.setIfInBounds_toArray, List.set_cons_zero, List.set_cons_succ]
    refine wpAnyH_take (i := 16) (oi := { dst := some 23, op := Op.move (Operand.tmp 2), type := 3, pos := "l13_registers.go:54", after := #[{ on := 14, ground := Ground.guard }], guard := some (14, true) }) (v := undef) rfl (by kernel_rfl) (by kernel_rfl) (by kernel_rfl) (fun _ _ _ h => h) (Or.inr ⟨by rfl, rfl⟩) hH ?_
    simp only [Act.put, List.setIfInBounds_toArray, List.set_cons_zero, List.set_cons_succ]
    refine wpAnyH_take (i := 17) (oi := { dst := some 24, op := Op.call { callee := Callee.value (Operand.func 37), args := #[Operand.tmp 22, Operand.tmp 23], argTypes := #[26, 3] }, type := 4, pos := "l13_registers.go:55", after := #[{ on := 15, ground := Ground.data }, { on := 16, ground := Ground.data }, { on := 14, ground := Ground.chain }, { on := 14, ground := Ground.guard }], guard := some (14, true) }) (v := undef) rfl (by kernel_rfl) (by kernel_rfl) (by kernel_rfl) (fun _ _ _ h => h) (Or.inr ⟨by rfl, rfl⟩) hH ?_
    simp only [Act.put, List.setIfInBounds_toArray, List.set_cons_zero, List.set_cons_succ]
    refine wpAnyH_take (i := 18) (oi := { dst := some 25, op := Op.pick (Operand.tmp 21) (Operand.tmp 24) (Operand.const (Value.bool false)), type := 4, pos := "l13_registers.go:54", after := #[{ on := 14, ground := Ground.data }, { on := 17, ground := Ground.data }], guard := none }) (v := .bool false) rfl (by kernel_rfl) (by kernel_rfl) (by kernel_rfl) (fun _ _ _ h => h) (Or.inl ⟨by rfl, fun w0 hSw => by (obtain ⟨s0, s1, s2⟩ := hSw; go_simp)⟩) hH ?_
    simp only [Act.put, List.setIfInBounds_toArray, List.set_cons_zero, List.set_cons_succ]
    refine wpAnyH_take (i := 19) (oi := { dst := some 26, op := Op.move (Operand.tmp 25), type := 4, pos := "l13_registers.go:54", after := #[{ on := 18, ground := Ground.data }, { on := 17, ground := Ground.chain }], guard := none }) (v := .bool false) rfl (by kernel_rfl) (by kernel_rfl) (by kernel_rfl) (fun _ _ _ h => h) (Or.inl ⟨by rfl, fun w0 hSw => by (obtain ⟨s0, s1, s2⟩ := hSw; go_simp)⟩) hH ?_
    simp only [Act.put, List.setIfInBounds_toArray, List.set_cons_zero, List.set_cons_succ]
    refine wpAnyH_take (i := 20) (oi := { dst := some 27, op := Op.move (Operand.tmp 0), type := 29, pos := "l13_registers.go:54", after := #[{ on := 19, ground := Ground.guard }], guard := some (19, true) }) (v := undef) rfl (by kernel_rfl) (by kernel_rfl) (by kernel_rfl) (fun _ _ _ h => h) (Or.inr ⟨by rfl, rfl⟩) hH ?_
    simp only [Act.put, List.setIfInBounds_toArray, List.set_cons_zero, List.set_cons_succ]
    refine wpAnyH_take (i := 21) (oi := { dst := some 28, op := Op.fieldAddr 26 (Operand.tmp 4) 0, type := 0, pos := "l13_registers.go:54", after := #[{ on := 19, ground := Ground.guard }], guard := some (19, true) }) (v := undef) rfl (by kernel_rfl) (by kernel_rfl) (by kernel_rfl) (fun _ _ _ h => h) (Or.inr ⟨by rfl, rfl⟩) hH ?_
    simp only [Act.put, List.setIfInBounds_toArray, List.set_cons_zero, List.set_cons_succ]
    refine wpAnyH_take (i := 22) (oi := { dst := some 29, op := Op.load 24 (Operand.tmp 28), type := 24, pos := "l13_registers.go:54", after := #[{ on := 21, ground := Ground.data }, { on := 19, ground := Ground.guard }], guard := some (19, true) }) (v := undef) rfl (by kernel_rfl) (by kernel_rfl) (by kernel_rfl) (fun _ _ _ h => h) (Or.inr ⟨by rfl, rfl⟩) hH ?_
    simp only [Act.put, List.setIfInBounds_toArray, List.set_cons_zero, List.set_cons_succ]
    refine wpAnyH_take (i := 23) (oi := { dst := some 30, op := Op.call { callee := Callee.value (Operand.func 38), args := #[Operand.tmp 27, Operand.tmp 29], argTypes := #[55, 24] }, type := 4, pos := "l13_registers.go:55", after := #[{ on := 20, ground := Ground.data }, { on := 22, ground := Ground.data }, { on := 19, ground := Ground.chain }, { on := 19, ground := Ground.guard }], guard := some (19, true) }) (v := undef) rfl (by kernel_rfl) (by kernel_rfl) (by kernel_rfl) (fun _ _ _ h => h) (Or.inr ⟨by rfl, rfl⟩) hH ?_
    simp only [Act.put, List.setIfInBounds_toArray, List.set_cons_zero, List.set_cons_succ]
    refine wpAnyH_take (i := 24) (oi := { dst := some 31, op := Op.pick (Operand.tmp 26) (Operand.tmp 30) (Operand.const (Value.bool false)), type := 4, pos := "l13_registers.go:54", after := #[{ on := 19, ground := Ground.data }, { on := 23, ground := Ground.data }], guard := none }) (v := .bool false) rfl (by kernel_rfl) (by kernel_rfl) (by kernel_rfl) (fun _ _ _ h => h) (Or.inl ⟨by rfl, fun w0 hSw => by (obtain ⟨s0, s1, s2⟩ := hSw; go_simp)⟩) hH ?_
    simp only [Act.put, List.setIfInBounds_toArray, List.set_cons_zero, List.set_cons_succ]
    refine wpAnyH_take (i := 25) (oi := { dst := some 6, op := Op.assign (Operand.tmp 31), type := 4, pos := "l13_registers.go:54", after := #[{ on := 24, ground := Ground.data }, { on := 23, ground := Ground.chain }, { on := 0, ground := Ground.phase }, { on := 1, ground := Ground.phase }, { on := 2, ground := Ground.phase }, { on := 3, ground := Ground.phase }, { on := 4, ground := Ground.phase }, { on := 5, ground := Ground.phase }, { on := 6, ground := Ground.phase }, { on := 7, ground := Ground.phase }, { on := 8, ground := Ground.phase }, { on := 9, ground := Ground.phase }, { on := 10, ground := Ground.phase }, { on := 11, ground := Ground.phase }, { on := 12, ground := Ground.phase }, { on := 13, ground := Ground.phase }, { on := 14, ground := Ground.phase }, { on := 15, ground := Ground.phase }, { on := 16, ground := Ground.phase }, { on := 17, ground := Ground.phase }, { on := 18, ground := Ground.phase }, { on := 19, ground := Ground.phase }, { on := 20, ground := Ground.phase }, { on := 21, ground := Ground.phase }, { on := 22, ground := Ground.phase }, { on := 23, ground := Ground.phase }, { on := 24, ground := Ground.phase }], guard := none }) (v := .bool false) rfl (by kernel_rfl) (by kernel_rfl) (by kernel_rfl) (fun _ _ _ h => h) (Or.inl ⟨by rfl, fun w0 hSw => by (obtain ⟨s0, s1, s2⟩ := hSw; go_simp)⟩) hH ?_
    simp only [Act.put, List.setIfInBounds_toArray, List.set_cons_zero, List.set_cons_succ]
    refine wpAnyH_done (by kernel_rfl) ?_ _
    clear hH
    go_wp2
    go_ret
    exact ⟨rfl, HBV.out.trans (F1.mono HBV.out.size)⟩
  obtain ⟨p1, p2⟩ := pp
  have h27 : ∀ v, Calls Tryz.prog 27 #[.int .i64 pl] v fun e w' => e = .returned (.bool true) ∧ w' = v := fun v => by
    have := goodP27 pl v
    rw [decide_eq_true p1, decide_eq_true p2] at this
    exact this
  obtain ⟨K, hD, hR⟩ := lvok_of hg0 hX
  have h36 : ∀ v, Below V.heap.size V v → Calls Tryz.prog 36 #[.slice (some ⟨a, 0, none⟩) n cap] v fun e w' => e = .returned (.int .i64 (c.R : Int)) ∧ Below v.heap.size v w' := fun v b => (regs14 n a cap c.O c.D c.A c.B c.C c.X v (G.below (BV.trans (b.mono BV.size))) (RI.next (BV.trans (b.mono BV.size))) (by rw [← hn]; exact hX) n1).mono fun e w' ⟨h1, h2⟩ => ⟨by rw [h1]; unfold regsV; rw [hgN, hR, hn]; rfl, h2⟩
  by_cases eR : m = c.R
  case neg =>
    obtain rfl := HN.out (fun h => eR h.2.2.2.1)
    have g1 : ((m : Int) == (c.R : Int)) = false := by simp; omega
    clear hg hgN RI hX hW BV h54 G hr HN HY hg0 K hD hR eR
    go_enter Tryz.func18, Tryz.ntmps18
    go_upto_region 1 with fail
    refine wp_region_held_drew (S := Bx w.heap.size ad m cp Kp S) (by kernel_rfl) (Bx.next ⟨D0, D1, D2⟩ BD) (fun hH => ?_)
    refine wpAnyH_take (i := 0) (oi := { dst := some 7, op := Op.move (Operand.tmp 0), type := 29, pos := "l13_registers.go:54", after := #[], guard := none }) (v := .slice (some ⟨a, 0, none⟩) n cap) rfl (by kernel_rfl) (by kernel_rfl) (by kernel_rfl) (fun _ _ _ h => h) (Or.inl ⟨by rfl, fun w0 hSw => by (obtain ⟨s0, s1, s2⟩ := hSw; go_simp)⟩) hH ?_
    simp only [Act.put, List.setIfInBounds_toArray, List.set_cons_zero, List.set_cons_succ]
    refine wpAnyH_ready (rs := [1]) (by kernel_rfl) (by simp) ?_
    refine (AllReadyH.cons (o := { dst := some 8, op := Op.call { callee := Callee.value (Operand.func 26), args := #[Operand.tmp 7], argTypes := #[29] }, type := 4, pos := "l13_registers.go:54", after := #[{ on := 0, ground := Ground.data }], guard := none }) rfl (fun K hK => ?_) AllReadyH.nil)
    refine step_callW 26 #[.slice (some ⟨a, 0, none⟩) n cap] (fun z v w' => z = .bool true ∧ Below v.heap.size v w') (by rfl) (by go_simp) ((h26 _ BD).mono fun e w' ⟨h1, h2⟩ => ⟨_, h1, rfl, h2⟩) ?_
    rintro zw1 w1 ⟨rfl, Bw1⟩
    simp only [Act.put, List.setIfInBounds_toArray, List.set_cons_zero, List.set_cons_succ]
    refine hK.out _ _ (hH.next Bw1) (fun hH' => ?_)
    clear hK K
    replace hH := hH'
    clear hH'
    have F1 : Below V.heap.size V w1 := BD.trans (Bw1.mono (Nat.le_refl _))
    refine wpAnyH_take (i := 2) (oi := { dst := some 9, op := Op.move (Operand.tmp 8), type := 4, pos := "l13_registers.go:54", after := #[{ on := 1, ground := Ground.data }, { on := 1, ground := Ground.chain }], guard := none }) (v := .bool true) rfl (by kernel_rfl) (by kernel_rfl) (by kernel_rfl) (fun _ _ _ h => h) (Or.inl ⟨by rfl, fun w0 hSw => by (obtain ⟨s0, s1, s2⟩ := hSw; go_simp)⟩) hH ?_
    simp only [Act.put, List.setIfInBounds_toArray, List.set_cons_zero, List.set_cons_succ]
    refine wpAnyH_take (i := 3) (oi := { dst := some 10, op := Op.move (Operand.tmp 2), type := 3, pos := "l13_registers.go:54", after := #[{ on := 2, ground := Ground.guard }], guard := some (2, true) }) (v := .int .i64 pl) rfl (by kernel_rfl) (by kernel_rfl) (by kernel_rfl) (fun _ _ _ h => h) (Or.inl ⟨by rfl, fun w0 hSw => by (obtain ⟨s0, s1, s2⟩ := hSw; go_simp)⟩) hH ?_
    simp only [Act.put, List.setIfInBounds_toArray, List.set_cons_zero, List.set_cons_succ]
    refine wpAnyH_ready (rs := [4]) (by kernel_rfl) (by simp) ?_
    refine (AllReadyH.cons (o := { dst := some 11, op := Op.call { callee := Callee.value (Operand.func 27), args := #[Operand.tmp 10], argTypes := #[3] }, type := 4, pos := "l13_registers.go:54", after := #[{ on := 3, ground := Ground.data }, { on := 2, ground := Ground.chain }, { on := 2, ground := Ground.guard }], guard := some (2, true) }) rfl (fun K hK => ?_) AllReadyH.nil)
    refine step_callW 27 #[.int .i64 pl] (fun z v w' => z = .bool true ∧ w' = v) (by rfl) (by go_simp) ((h27 _).mono fun e w' ⟨h1, h2⟩ => ⟨_, h1, rfl, h2⟩) ?_
    rintro z27 w27 ⟨rfl, hw27⟩
    subst w27
    simp only [Act.put, List.setIfInBounds_toArray, List.set_cons_zero, List.set_cons_succ]
    refine hK.out _ _ hH (fun hH' => ?_)
    clear hK K hH'
    refine wpAnyH_take (i := 5) (oi := { dst := some 12, op := Op.pick (Operand.tmp 9) (Operand.tmp 11) (Operand.const (Value.bool false)), type := 4, pos := "l13_registers.go:54", after := #[{ on := 2, ground := Ground.data }, { on := 4, ground := Ground.data }], guard := none }) (v := .bool true) rfl (by kernel_rfl) (by kernel_rfl) (by kernel_rfl) (fun _ _ _ h => h) (Or.inl ⟨by rfl, fun w0 hSw => by (obtain ⟨s0, s1, s2⟩ := hSw; go_simp)⟩) hH ?_
    simp only [Act.put, List.setIfInBounds_toArray, List.set_cons_zero, List.set_cons_succ]
    refine wpAnyH_take (i := 6) (oi := { dst := some 13, op := Op.move (Operand.tmp 12), type := 4, pos := "l13_registers.go:54", after := #[{ on := 5, ground := Ground.data }, { on := 4, ground := Ground.chain }], guard := none }) (v := .bool true) rfl (by kernel_rfl) (by kernel_rfl) (by kernel_rfl) (fun _ _ _ h => h) (Or.inl ⟨by rfl, fun w0 hSw => by (obtain ⟨s0, s1, s2⟩ := hSw; go_simp)⟩) hH ?_
    simp only [Act.put, List.setIfInBounds_toArray, List.set_cons_zero, List.set_cons_succ]
    refine wpAnyH_take (i := 7) (oi := { dst := some 14, op := Op.fieldAddr 26 (Operand.tmp 4) 0, type := 0, pos := "l13_registers.go:54", after := #[{ on := 6, ground := Ground.guard }], guard := some (6, true) }) (v := .pointer (some ⟨w.heap.size, 0, none⟩)) rfl (by kernel_rfl) (by kernel_rfl) (by kernel_rfl) (fun _ _ _ h => h) (Or.inl ⟨by rfl, fun w0 hSw => by (obtain ⟨s0, s1, s2⟩ := hSw; go_simp)⟩) hH ?_
    simp only [Act.put, List.setIfInBounds_toArray, List.set_cons_zero, List.set_cons_succ]
    refine wpAnyH_take (i := 8) (oi := { dst := some 15, op := Op.load 24 (Operand.tmp 14), type := 24, pos := "l13_registers.go:54", after := #[{ on := 7, ground := Ground.data }, { on := 6, ground := Ground.guard }], guard := some (6, true) }) (v := .slice ad m cp) rfl (by kernel_rfl) (by kernel_rfl) (by kernel_rfl) (fun _ _ _ h => h) (Or.inl ⟨by rfl, fun w0 hSw => by (obtain ⟨s0, s1, s2⟩ := hSw; go_simp)⟩) hH ?_
    simp only [Act.put, List.setIfInBounds_toArray, List.set_cons_zero, List.set_cons_succ]
    refine wpAnyH_take (i := 9) (oi := { dst := some 16, op := Op.call { callee := Callee.builtin Builtin.len, args := #[Operand.tmp 15], argTypes := #[24] }, type := 3, pos := "l13_registers.go:54", after := #[{ on := 8, ground := Ground.data }, { on := 6, ground := Ground.guard }], guard := some (6, true) }) (v := .int .i64 (m : Int)) rfl (by kernel_rfl) (by kernel_rfl) (by kernel_rfl) (fun _ _ _ h => h) (Or.inl ⟨by rfl, fun w0 hSw => by (obtain ⟨s0, s1, s2⟩ := hSw; go_simp)⟩) hH ?_
    simp only [Act.put, List.setIfInBounds_toArray, List.set_cons_zero, List.set_cons_succ]
    refine wpAnyH_take (i := 10) (oi := { dst := some 17, op := Op.move (Operand.tmp 0), type := 29, pos := "l13_registers.go:54", after := #[{ on := 6, ground := Ground.guard }], guard := some (6, true) }) (v := .slice (some ⟨a, 0, none⟩) n cap) rfl (by kernel_rfl) (by kernel_rfl) (by kernel_rfl) (fun _ _ _ h => h) (Or.inl ⟨by rfl, fun w0 hSw => by (obtain ⟨s0, s1, s2⟩ := hSw; go_simp)⟩) hH ?_
    simp only [Act.put, List.setIfInBounds_toArray, List.set_cons_zero, List.set_cons_succ]
    refine wpAnyH_ready (rs := [11]) (by kernel_rfl) (by simp) ?_
    refine (AllReadyH.cons (o := { dst := some 18, op := Op.call { callee := Callee.value (Operand.func 36), args := #[Operand.tmp 17], argTypes := #[29] }, type := 3, pos := "l13_registers.go:55", after := #[{ on := 10, ground := Ground.data }, { on := 6, ground := Ground.chain }, { on := 6, ground := Ground.guard }], guard := some (6, true) }) rfl (fun K hK => ?_) AllReadyH.nil)
    refine step_callW 36 #[.slice (some ⟨a, 0, none⟩) n cap] (fun z v w' => z = .int .i64 (c.R : Int) ∧ Below v.heap.size v w') (by rfl) (by go_simp) ((h36 _ F1).mono fun e w' ⟨h1, h2⟩ => ⟨_, h1, rfl, h2⟩) ?_
    rintro zw2 w2 ⟨rfl, Bw2⟩
    simp only [Act.put, List.setIfInBounds_toArray, List.set_cons_zero, List.set_cons_succ]
    refine hK.out _ _ (hH.next Bw2) (fun hH' => ?_)
    clear hK K
    replace hH := hH'
    clear hH'
    have F2 : Below V.heap.size V w2 := F1.trans (Bw2.mono F1.size)
    refine wpAnyH_take (i := 12) (oi := { dst := some 19, op := Op.binOp BinOp.eql 3 (Operand.tmp 16) (Operand.tmp 18) 3, type := 4, pos := "l13_registers.go:54", after := #[{ on := 9, ground := Ground.data }, { on := 11, ground := Ground.data }, { on := 6, ground := Ground.guard }], guard := some (6, true) }) (v := .bool false) rfl (by kernel_rfl) (by kernel_rfl) (by kernel_rfl) (fun _ _ _ h => h) (Or.inl ⟨by rfl, fun w0 hSw => by (obtain ⟨s0, s1, s2⟩ := hSw; go_simp)⟩) hH ?_
    simp only [Act.put, List.setIfInBounds_toArray, List.set_cons_zero, List.set_cons_succ]
    refine wpAnyH_take (i := 13) (oi := { dst := some 20, op := Op.pick (Operand.tmp 13) (Operand.tmp 19) (Operand.const (Value.bool false)), type := 4, pos := "l13_registers.go:54", after := #[{ on := 6, ground := Ground.data }, { on := 12, ground := Ground.data }], guard := none }) (v := .bool false) rfl (by kernel_rfl) (by kernel_rfl) (by kernel_rfl) (fun _ _ _ h => h) (Or.inl ⟨by rfl, fun w0 hSw => by (obtain ⟨s0, s1, s2⟩ := hSw; go_simp)⟩) hH ?_
    simp only [Act.put, List.setIfInBounds_toArray, List.set_cons_zero, List.set_cons_succ]
    refine wpAnyH_take (i := 14) (oi := { dst := some 21, op := Op.move (Operand.tmp 20), type := 4, pos := "l13_registers.go:54", after := #[{ on := 13, ground := Ground.data }, { on := 11, ground := Ground.chain }], guard := none }) (v := .bool false) rfl (by kernel_rfl) (by kernel_rfl) (by kernel_rfl) (fun _ _ _ h => h) (Or.inl ⟨by rfl, fun w0 hSw => by (obtain ⟨s0, s1, s2⟩ := hSw; go_simp)⟩) hH ?_
    simp only [Act.put, List.setIfInBounds_toArray, List.set_cons_zero, List.set_cons_succ]
    refine wpAnyH_take (i := 15) (oi := { dst := some 22, op := Op.load 26 (Operand.tmp 4), type := 26, pos := "l13_registers.go:54", after := #[{ on := 14, ground := Ground.guard }], guard := some (14, true) }) (v := undef) rfl (by kernel_rfl) (by kernel_rfl) (by kernel_rfl) (fun _ _ _ h => h) (Or.inr ⟨by rfl, rfl⟩) hH ?_
    simp only [Act.put, List.setIfInBounds_toArray, List.set_cons_zero, List.set_cons_succ]
    refine wpAnyH_take (i := 16) (oi := { dst := some 23, op := Op.move (Operand.tmp 2), type := 3, pos := "l13_registers.go:54", after := #[{ on := 14, ground := Ground.guard }], guard := some (14, true) }) (v := undef) rfl (by kernel_rfl) (by kernel_rfl) (by kernel_rfl) (fun _ _ _ h => h) (Or.inr ⟨by rfl, rfl⟩) hH ?_
    simp only [Act.put, List.setIfInBounds_toArray, List.set_cons_zero, List.set_cons_succ]
    refine wpAnyH_take (i := 17) (oi := { dst := some 24, op := Op.call { callee := Callee.value (Operand.func 37), args := #[Operand.tmp 22, Operand.tmp 23], argTypes := #[26, 3] }, type := 4, pos := "l13_registers.go:55", after := #[{ on := 15, ground := Ground.data }, { on := 16, ground := Ground.data }, { on := 14, ground := Ground.chain }, { on := 14, ground := Ground.guard }], guard := some (14, true) }) (v := undef) rfl (by kernel_rfl) (by kernel_rfl) (by kernel_rfl) (fun _ _ _ h => h) (Or.inr ⟨by rfl, rfl⟩) hH ?_
    simp only [Act.put, List.setIfInBounds_toArray, List.set_cons_zero, List.set_cons_succ]
    refine wpAnyH_take (i := 18) (oi := { dst := some 25, op := Op.pick (Operand.tmp 21) (Operand.tmp 24) (Operand.const (Value.bool false)), type := 4, pos := "l13_registers.go:54", after := #[{ on := 14, ground := Ground.data }, { on := 17, ground := Ground.data }], guard := none }) (v := .bool false) rfl (by kernel_rfl) (by kernel_rfl) (by kernel_rfl) (fun _ _ _ h => h) (Or.inl ⟨by rfl, fun w0 hSw => by (obtain ⟨s0, s1, s2⟩ := hSw; go_simp)⟩) hH ?_
    simp only [Act.put, List.setIfInBounds_toArray, List.set_cons_zero, List.set_cons_succ]
    refine wpAnyH_take (i := 19) (oi := { dst := some 26, op := Op.move (Operand.tmp 25), type := 4, pos := "l13_registers.go:54", after := #[{ on := 18, ground := Ground.data }, { on := 17, ground := Ground.chain }], guard := none }) (v := .bool false) rfl (by kernel_rfl) (by kernel_rfl) (by kernel_rfl) (fun _ _ _ h => h) (Or.inl ⟨by rfl, fun w0 hSw => by (obtain ⟨s0, s1, s2⟩ := hSw; go_simp)⟩) hH ?_
    simp only [Act.put, List.setIfInBounds_toArray, List.set_cons_zero, List.set_cons_succ]
    refine wpAnyH_take (i := 20) (oi := { dst := some 27, op := Op.move (Operand.tmp 0), type := 29, pos := "l13_registers.go:54", after := #[{ on := 19, ground := Ground.guard }], guard := some (19, true) }) (v := undef) rfl (by kernel_rfl) (by kernel_rfl) (by kernel_rfl) (fun _ _ _ h => h) (Or.inr ⟨by rfl, rfl⟩) hH ?_
    simp only [Act.put, List.setIfInBounds_toArray, List.set_cons_zero, List.set_cons_succ]
    refine wpAnyH_take (i := 21) (oi := { dst := some 28, op := Op.fieldAddr 26 (Operand.tmp 4) 0, type := 0, pos := "l13_registers.go:54", after := #[{ on := 19, ground := Ground.guard }], guard := some (19, true) }) (v := undef) rfl (by kernel_rfl) (by kernel_rfl) (by kernel_rfl) (fun _ _ _ h => h) (Or.inr ⟨by rfl, rfl⟩) hH ?_
    simp only [Act.put, List.setIfInBounds_toArray, List.set_cons_zero, List.set_cons_succ]
    refine wpAnyH_take (i := 22) (oi := { dst := some 29, op := Op.load 24 (Operand.tmp 28), type := 24, pos := "l13_registers.go:54", after := #[{ on := 21, ground := Ground.data }, { on := 19, ground := Ground.guard }], guard := some (19, true) }) (v := undef) rfl (by kernel_rfl) (by kernel_rfl) (by kernel_rfl) (fun _ _ _ h => h) (Or.inr ⟨by rfl, rfl⟩) hH ?_
    simp only [Act.put, List.setIfInBounds_toArray, List.set_cons_zero, List.set_cons_succ]
    refine wpAnyH_take (i := 23) (oi := { dst := some 30, op := Op.call { callee := Callee.value (Operand.func 38), args := #[Operand.tmp 27, Operand.tmp 29], argTypes := #[55, 24] }, type := 4, pos := "l13_registers.go:55", after := #[{ on := 20, ground := Ground.data }, { on := 22, ground := Ground.data }, { on := 19, ground := Ground.chain }, { on := 19, ground := Ground.guard }], guard := some (19, true) }) (v := undef) rfl (by kernel_rfl) (by kernel_rfl) (by kernel_rfl) (fun _ _ _ h => h) (Or.inr ⟨by rfl, rfl⟩) hH ?_
    simp only [Act.put, List.setIfInBounds_toArray, List.set_cons_zero, List.set_cons_succ]
    refine wpAnyH_take (i := 24) (oi := { dst := some 31, op := Op.pick (Operand.tmp 26) (Operand.tmp 30) (Operand.const (Value.bool false)), type := 4, pos := "l13_registers.go:54", after := #[{ on := 19, ground := Ground.data }, { on := 23, ground := Ground.data }], guard := none }) (v := .bool false) rfl (by kernel_rfl) (by kernel_rfl) (by kernel_rfl) (fun _ _ _ h => h) (Or.inl ⟨by rfl, fun w0 hSw => by (obtain ⟨s0, s1, s2⟩ := hSw; go_simp)⟩) hH ?_
    simp only [Act.put, List.setIfInBounds_toArray, List.set_cons_zero, List.set_cons_succ]
    refine wpAnyH_take (i := 25) (oi := { dst := some 6, op := Op.assign (Operand.tmp 31), type := 4, pos := "l13_registers.go:54", after := #[{ on := 24, ground := Ground.data }, { on := 23, ground := Ground.chain }, { on := 0, ground := Ground.phase }, { on := 1, ground := Ground.phase }, { on := 2, ground := Ground.phase }, { on := 3, ground := Ground.phase }, { on := 4, ground := Ground.phase }, { on := 5, ground := Ground.phase }, { on := 6, ground := Ground.phase }, { on := 7, ground := Ground.phase }, { on := 8, ground := Ground.phase }, { on := 9, ground := Ground.phase }, { on := 10, ground := Ground.phase }, { on := 11, ground := Ground.phase }, { on := 12, ground := Ground.phase }, { on := 13, ground := Ground.phase }, { on := 14, ground := Ground.phase }, { on := 15, ground := Ground.phase }, { on := 16, ground := Ground.phase }, { on := 17, ground := Ground.phase }, { on := 18, ground := Ground.phase }, { on := 19, ground := Ground.phase }, { on := 20, ground := Ground.phase }, { on := 21, ground := Ground.phase }, { on := 22, ground := Ground.phase }, { on := 23, ground := Ground.phase }, { on := 24, ground := Ground.phase }], guard := none }) (v := .bool false) rfl (by kernel_rfl) (by kernel_rfl) (by kernel_rfl) (fun _ _ _ h => h) (Or.inl ⟨by rfl, fun w0 hSw => by (obtain ⟨s0, s1, s2⟩ := hSw; go_simp)⟩) hH ?_
    simp only [Act.put, List.setIfInBounds_toArray, List.set_cons_zero, List.set_cons_succ]
    refine wpAnyH_done (by kernel_rfl) ?_ _
    clear hH
    go_wp2
    go_ret
    exact ⟨rfl, HBV.out.trans (F2.mono HBV.out.size)⟩
  have g1 : ((m : Int) == (c.R : Int)) = true := by simp; omega
  have r4 := K.r1
  have HAh : Hid (AhP c m W Kp S pl ↔ CntP m W Kp S pl ∧ ApP c c.R n W) := by
    show _ ↔ _
    unfold AhP HoldsP CntP ApP OkR
    rw [hn]
    constructor
    · rintro ⟨_, _, _, h1, h2, h3, h4, h5, h6⟩
      exact ⟨⟨h2, h3, fun i hi => (bey_iff (hr i hi).1 (hr i hi).2).2 (h4 i hi).1, h5, h6⟩, fun r hr' s hs hcl => (h4 r (by omega)).2 s hs hcl⟩
    · rintro ⟨⟨h2, h3, h4, h5, h6⟩, h7⟩
      exact ⟨hg, p1, p2, eR, h2, h3, fun r hr' => ⟨(bey_iff (hr r hr').1 (hr r hr').2).1 (h4 r hr'), fun s hs hcl => h7 r (by omega) s hs hcl⟩, h5, h6⟩
  by_cases qC : CntP m W Kp S pl
  case neg =>
    obtain rfl := HN.out (fun h => qC (HAh.out.1 h).1)
    have h37 : ∀ v, Below V.heap.size V v → Calls Tryz.prog 37 #[.agg #[.slice ad m cp, .int .i64 Kp, .int .i64 S], .int .i64 pl] v fun e w' => e = .returned (.bool false) ∧ Below v.heap.size v w' := fun v b => counts37 ad m cp W Kp S pl v (by omega) p2 hr (hW.next (BV.trans (b.mono BV.size))) false (fun h => absurd h qC) (fun _ => rfl)
    clear hg hgN RI hX hW BV h54 G hr HN HY hg0 K hD hR eR HAh qC
    go_enter Tryz.func18, Tryz.ntmps18
    go_upto_region 1 with fail
    refine wp_region_held_drew (S := Bx w.heap.size ad m cp Kp S) (by kernel_rfl) (Bx.next ⟨D0, D1, D2⟩ BD) (fun hH => ?_)
    refine wpAnyH_take (i := 0) (oi := { dst := some 7, op := Op.move (Operand.tmp 0), type := 29, pos := "l13_registers.go:54", after := #[], guard := none }) (v := .slice (some ⟨a, 0, none⟩) n cap) rfl (by kernel_rfl) (by kernel_rfl) (by kernel_rfl) (fun _ _ _ h => h) (Or.inl ⟨by rfl, fun w0 hSw => by (obtain ⟨s0, s1, s2⟩ := hSw; go_simp)⟩) hH ?_
    simp only [Act.put, List.setIfInBounds_toArray, List.set_cons_zero, List.set_cons_succ]
    refine wpAnyH_ready (rs := [1]) (by kernel_rfl) (by simp) ?_
    refine (AllReadyH.cons (o := { dst := some 8, op := Op.call { callee := Callee.value (Operand.func 26), args := #[Operand.tmp 7], argTypes := #[29] }, type := 4, pos := "l13_registers.go:54", after := #[{ on := 0, ground := Ground.data }], guard := none }) rfl (fun K hK => ?_) AllReadyH.nil)
    refine step_callW 26 #[.slice (some ⟨a, 0, none⟩) n cap] (fun z v w' => z = .bool true ∧ Below v.heap.size v w') (by rfl) (by go_simp) ((h26 _ BD).mono fun e w' ⟨h1, h2⟩ => ⟨_, h1, rfl, h2⟩) ?_
    rintro zw1 w1 ⟨rfl, Bw1⟩
    simp only [Act.put, List.setIfInBounds_toArray, List.set_cons_zero, List.set_cons_succ]
    refine hK.out _ _ (hH.next Bw1) (fun hH' => ?_)
    clear hK K
    replace hH := hH'
    clear hH'
    have F1 : Below V.heap.size V w1 := BD.trans (Bw1.mono (Nat.le_refl _))
    refine wpAnyH_take (i := 2) (oi := { dst := some 9, op := Op.move (Operand.tmp 8), type := 4, pos := "l13_registers.go:54", after := #[{ on := 1, ground := Ground.data }, { on := 1, ground := Ground.chain }], guard := none }) (v := .bool true) rfl (by kernel_rfl) (by kernel_rfl) (by kernel_rfl) (fun _ _ _ h => h) (Or.inl ⟨by rfl, fun w0 hSw => by (obtain ⟨s0, s1, s2⟩ := hSw; go_simp)⟩) hH ?_
    simp only [Act.put, List.setIfInBounds_toArray, List.set_cons_zero, List.set_cons_succ]
    refine wpAnyH_take (i := 3) (oi := { dst := some 10, op := Op.move (Operand.tmp 2), type := 3, pos := "l13_registers.go:54", after := #[{ on := 2, ground := Ground.guard }], guard := some (2, true) }) (v := .int .i64 pl) rfl (by kernel_rfl) (by kernel_rfl) (by kernel_rfl) (fun _ _ _ h => h) (Or.inl ⟨by rfl, fun w0 hSw => by (obtain ⟨s0, s1, s2⟩ := hSw; go_simp)⟩) hH ?_
    simp only [Act.put, List.setIfInBounds_toArray, List.set_cons_zero, List.set_cons_succ]
    refine wpAnyH_ready (rs := [4]) (by kernel_rfl) (by simp) ?_
    refine (AllReadyH.cons (o := { dst := some 11, op := Op.call { callee := Callee.value (Operand.func 27), args := #[Operand.tmp 10], argTypes := #[3] }, type := 4, pos := "l13_registers.go:54", after := #[{ on := 3, ground := Ground.data }, { on := 2, ground := Ground.chain }, { on := 2, ground := Ground.guard }], guard := some (2, true) }) rfl (fun K hK => ?_) AllReadyH.nil)
    refine step_callW 27 #[.int .i64 pl] (fun z v w' => z = .bool true ∧ w' = v) (by rfl) (by go_simp) ((h27 _).mono fun e w' ⟨h1, h2⟩ => ⟨_, h1, rfl, h2⟩) ?_
    rintro z27 w27 ⟨rfl, hw27⟩
    subst w27
    simp only [Act.put, List.setIfInBounds_toArray, List.set_cons_zero, List.set_cons_succ]
    refine hK.out _ _ hH (fun hH' => ?_)
    clear hK K hH'
    refine wpAnyH_take (i := 5) (oi := { dst := some 12, op := Op.pick (Operand.tmp 9) (Operand.tmp 11) (Operand.const (Value.bool false)), type := 4, pos := "l13_registers.go:54", after := #[{ on := 2, ground := Ground.data }, { on := 4, ground := Ground.data }], guard := none }) (v := .bool true) rfl (by kernel_rfl) (by kernel_rfl) (by kernel_rfl) (fun _ _ _ h => h) (Or.inl ⟨by rfl, fun w0 hSw => by (obtain ⟨s0, s1, s2⟩ := hSw; go_simp)⟩) hH ?_
    simp only [Act.put, List.setIfInBounds_toArray, List.set_cons_zero, List.set_cons_succ]
    refine wpAnyH_take (i := 6) (oi := { dst := some 13, op := Op.move (Operand.tmp 12), type := 4, pos := "l13_registers.go:54", after := #[{ on := 5, ground := Ground.data }, { on := 4, ground := Ground.chain }], guard := none }) (v := .bool true) rfl (by kernel_rfl) (by kernel_rfl) (by kernel_rfl) (fun _ _ _ h => h) (Or.inl ⟨by rfl, fun w0 hSw => by (obtain ⟨s0, s1, s2⟩ := hSw; go_simp)⟩) hH ?_
    simp only [Act.put, List.setIfInBounds_toArray, List.set_cons_zero, List.set_cons_succ]
    refine wpAnyH_take (i := 7) (oi := { dst := some 14, op := Op.fieldAddr 26 (Operand.tmp 4) 0, type := 0, pos := "l13_registers.go:54", after := #[{ on := 6, ground := Ground.guard }], guard := some (6, true) }) (v := .pointer (some ⟨w.heap.size, 0, none⟩)) rfl (by kernel_rfl) (by kernel_rfl) (by kernel_rfl) (fun _ _ _ h => h) (Or.inl ⟨by rfl, fun w0 hSw => by (obtain ⟨s0, s1, s2⟩ := hSw; go_simp)⟩) hH ?_
    simp only [Act.put, List.setIfInBounds_toArray, List.set_cons_zero, List.set_cons_succ]
    refine wpAnyH_take (i := 8) (oi := { dst := some 15, op := Op.load 24 (Operand.tmp 14), type := 24, pos := "l13_registers.go:54", after := #[{ on := 7, ground := Ground.data }, { on := 6, ground := Ground.guard }], guard := some (6, true) }) (v := .slice ad m cp) rfl (by kernel_rfl) (by kernel_rfl) (by kernel_rfl) (fun _ _ _ h => h) (Or.inl ⟨by rfl, fun w0 hSw => by (obtain ⟨s0, s1, s2⟩ := hSw; go_simp)⟩) hH ?_
    simp only [Act.put, List.setIfInBounds_toArray, List.set_cons_zero, List.set_cons_succ]
    refine wpAnyH_take (i := 9) (oi := { dst := some 16, op := Op.call { callee := Callee.builtin Builtin.len, args := #[Operand.tmp 15], argTypes := #[24] }, type := 3, pos := "l13_registers.go:54", after := #[{ on := 8, ground := Ground.data }, { on := 6, ground := Ground.guard }], guard := some (6, true) }) (v := .int .i64 (m : Int)) rfl (by kernel_rfl) (by kernel_rfl) (by kernel_rfl) (fun _ _ _ h => h) (Or.inl ⟨by rfl, fun w0 hSw => by (obtain ⟨s0, s1, s2⟩ := hSw; go_simp)⟩) hH ?_
    simp only [Act.put, List.setIfInBounds_toArray, List.set_cons_zero, List.set_cons_succ]
    refine wpAnyH_take (i := 10) (oi := { dst := some 17, op := Op.move (Operand.tmp 0), type := 29, pos := "l13_registers.go:54", after := #[{ on := 6, ground := Ground.guard }], guard := some (6, true) }) (v := .slice (some ⟨a, 0, none⟩) n cap) rfl (by kernel_rfl) (by kernel_rfl) (by kernel_rfl) (fun _ _ _ h => h) (Or.inl ⟨by rfl, fun w0 hSw => by (obtain ⟨s0, s1, s2⟩ := hSw; go_simp)⟩) hH ?_
    simp only [Act.put, List.setIfInBounds_toArray, List.set_cons_zero, List.set_cons_succ]
    refine wpAnyH_ready (rs := [11]) (by kernel_rfl) (by simp) ?_
    refine (AllReadyH.cons (o := { dst := some 18, op := Op.call { callee := Callee.value (Operand.func 36), args := #[Operand.tmp 17], argTypes := #[29] }, type := 3, pos := "l13_registers.go:55", after := #[{ on := 10, ground := Ground.data }, { on := 6, ground := Ground.chain }, { on := 6, ground := Ground.guard }], guard := some (6, true) }) rfl (fun K hK => ?_) AllReadyH.nil)
    refine step_callW 36 #[.slice (some ⟨a, 0, none⟩) n cap] (fun z v w' => z = .int .i64 (c.R : Int) ∧ Below v.heap.size v w') (by rfl) (by go_simp) ((h36 _ F1).mono fun e w' ⟨h1, h2⟩ => ⟨_, h1, rfl, h2⟩) ?_
    rintro zw2 w2 ⟨rfl, Bw2⟩
    simp only [Act.put, List.setIfInBounds_toArray, List.set_cons_zero, List.set_cons_succ]
    refine hK.out _ _ (hH.next Bw2) (fun hH' => ?_)
    clear hK K
    replace hH := hH'
    clear hH'
    have F2 : Below V.heap.size V w2 := F1.trans (Bw2.mono F1.size)
    refine wpAnyH_take (i := 12) (oi := { dst := some 19, op := Op.binOp BinOp.eql 3 (Operand.tmp 16) (Operand.tmp 18) 3, type := 4, pos := "l13_registers.go:54", after := #[{ on := 9, ground := Ground.data }, { on := 11, ground := Ground.data }, { on := 6, ground := Ground.guard }], guard := some (6, true) }) (v := .bool true) rfl (by kernel_rfl) (by kernel_rfl) (by kernel_rfl) (fun _ _ _ h => h) (Or.inl ⟨by rfl, fun w0 hSw => by (obtain ⟨s0, s1, s2⟩ := hSw; go_simp)⟩) hH ?_
    simp only [Act.put, List.setIfInBounds_toArray, List.set_cons_zero, List.set_cons_succ]
    refine wpAnyH_take (i := 13) (oi := { dst := some 20, op := Op.pick (Operand.tmp 13) (Operand.tmp 19) (Operand.const (Value.bool false)), type := 4, pos := "l13_registers.go:54", after := #[{ on := 6, ground := Ground.data }, { on := 12, ground := Ground.data }], guard := none }) (v := .bool true) rfl (by kernel_rfl) (by kernel_rfl) (by kernel_rfl) (fun _ _ _ h => h) (Or.inl ⟨by rfl, fun w0 hSw => by (obtain ⟨s0, s1, s2⟩ := hSw; go_simp)⟩) hH ?_
    simp only [Act.put, List.setIfInBounds_toArray, List.set_cons_zero, List.set_cons_succ]
    refine wpAnyH_take (i := 14) (oi := { dst := some 21, op := Op.move (Operand.tmp 20), type := 4, pos := "l13_registers.go:54", after := #[{ on := 13, ground := Ground.data }, { on := 11, ground := Ground.chain }], guard := none }) (v := .bool true) rfl (by kernel_rfl) (by kernel_rfl) (by kernel_rfl) (fun _ _ _ h => h) (Or.inl ⟨by rfl, fun w0 hSw => by (obtain ⟨s0, s1, s2⟩ := hSw; go_simp)⟩) hH ?_
    simp only [Act.put, List.setIfInBounds_toArray, List.set_cons_zero, List.set_cons_succ]
    refine wpAnyH_take (i := 15) (oi := { dst := some 22, op := Op.load 26 (Operand.tmp 4), type := 26, pos := "l13_registers.go:54", after := #[{ on := 14, ground := Ground.guard }], guard := some (14, true) }) (v := .agg #[.slice ad m cp, .int .i64 Kp, .int .i64 S]) rfl (by kernel_rfl) (by kernel_rfl) (by kernel_rfl) (fun _ _ _ h => h) (Or.inl ⟨by rfl, fun w0 hSw => by (obtain ⟨s0, s1, s2⟩ := hSw; go_simp)⟩) hH ?_
    simp only [Act.put, List.setIfInBounds_toArray, List.set_cons_zero, List.set_cons_succ]
    refine wpAnyH_take (i := 16) (oi := { dst := some 23, op := Op.move (Operand.tmp 2), type := 3, pos := "l13_registers.go:54", after := #[{ on := 14, ground := Ground.guard }], guard := some (14, true) }) (v := .int .i64 pl) rfl (by kernel_rfl) (by kernel_rfl) (by kernel_rfl) (fun _ _ _ h => h) (Or.inl ⟨by rfl, fun w0 hSw => by (obtain ⟨s0, s1, s2⟩ := hSw; go_simp)⟩) hH ?_
    simp only [Act.put, List.setIfInBounds_toArray, List.set_cons_zero, List.set_cons_succ]
    refine wpAnyH_ready (rs := [17]) (by kernel_rfl) (by simp) ?_
    refine (AllReadyH.cons (o := { dst := some 24, op := Op.call { callee := Callee.value (Operand.func 37), args := #[Operand.tmp 22, Operand.tmp 23], argTypes := #[26, 3] }, type := 4, pos := "l13_registers.go:55", after := #[{ on := 15, ground := Ground.data }, { on := 16, ground := Ground.data }, { on := 14, ground := Ground.chain }, { on := 14, ground := Ground.guard }], guard := some (14, true) }) rfl (fun K hK => ?_) AllReadyH.nil)
    refine step_callW 37 #[.agg #[.slice ad m cp, .int .i64 Kp, .int .i64 S], .int .i64 pl] (fun z v w' => z = .bool false ∧ Below v.heap.size v w') (by rfl) (by go_simp) ((h37 _ F2).mono fun e w' ⟨h1, h2⟩ => ⟨_, h1, rfl, h2⟩) ?_
    rintro zw3 w3 ⟨rfl, Bw3⟩
    simp only [Act.put, List.setIfInBounds_toArray, List.set_cons_zero, List.set_cons_succ]
    refine hK.out _ _ (hH.next Bw3) (fun hH' => ?_)
    clear hK K
    replace hH := hH'
    clear hH'
    have F3 : Below V.heap.size V w3 := F2.trans (Bw3.mono F2.size)
    refine wpAnyH_take (i := 18) (oi := { dst := some 25, op := Op.pick (Operand.tmp 21) (Operand.tmp 24) (Operand.const (Value.bool false)), type := 4, pos := "l13_registers.go:54", after := #[{ on := 14, ground := Ground.data }, { on := 17, ground := Ground.data }], guard := none }) (v := .bool false) rfl (by kernel_rfl) (by kernel_rfl) (by kernel_rfl) (fun _ _ _ h => h) (Or.inl ⟨by rfl, fun w0 hSw => by (obtain ⟨s0, s1, s2⟩ := hSw; go_simp)⟩) hH ?_
    simp only [Act.put, List.setIfInBounds_toArray, List.set_cons_zero, List.set_cons_succ]
    refine wpAnyH_take (i := 19) (oi := { dst := some 26, op := Op.move (Operand.tmp 25), type := 4, pos := "l13_registers.go:54", after := #[{ on := 18, ground := Ground.data }, { on := 17, ground := Ground.chain }], guard := none }) (v := .bool false) rfl (by kernel_rfl) (by kernel_rfl) (by kernel_rfl) (fun _ _ _ h => h) (Or.inl ⟨by rfl, fun w0 hSw => by (obtain ⟨s0, s1, s2⟩ := hSw; go_simp)⟩) hH ?_
    simp only [Act.put, List.setIfInBounds_toArray, List.set_cons_zero, List.set_cons_succ]
    refine wpAnyH_take (i := 20) (oi := { dst := some 27, op := Op.move (Operand.tmp 0), type := 29, pos := "l13_registers.go:54", after := #[{ on := 19, ground := Ground.guard }], guard := some (19, true) }) (v := undef) rfl (by kernel_rfl) (by kernel_rfl) (by kernel_rfl) (fun _ _ _ h => h) (Or.inr ⟨by rfl, rfl⟩) hH ?_
    simp only [Act.put, List.setIfInBounds_toArray, List.set_cons_zero, List.set_cons_succ]
    refine wpAnyH_take (i := 21) (oi := { dst := some 28, op := Op.fieldAddr 26 (Operand.tmp 4) 0, type := 0, pos := "l13_registers.go:54", after := #[{ on := 19, ground := Ground.guard }], guard := some (19, true) }) (v := undef) rfl (by kernel_rfl) (by kernel_rfl) (by kernel_rfl) (fun _ _ _ h => h) (Or.inr ⟨by rfl, rfl⟩) hH ?_
    simp only [Act.put, List.setIfInBounds_toArray, List.set_cons_zero, List.set_cons_succ]
    refine wpAnyH_take (i := 22) (oi := { dst := some 29, op := Op.load 24 (Operand.tmp 28), type := 24, pos := "l13_registers.go:54", after := #[{ on := 21, ground := Ground.data }, { on := 19, ground := Ground.guard }], guard := some (19, true) }) (v := undef) rfl (by kernel_rfl) (by kernel_rfl) (by kernel_rfl) (fun _ _ _ h => h) (Or.inr ⟨by rfl, rfl⟩) hH ?_
    simp only [Act.put, List.setIfInBounds_toArray, List.set_cons_zero, List.set_cons_succ]
    refine wpAnyH_take (i := 23) (oi := { dst := some 30, op := Op.call { callee := Callee.value (Operand.func 38), args := #[Operand.tmp 27, Operand.tmp 29], argTypes := #[55, 24] }, type := 4, pos := "l13_registers.go:55", after := #[{ on := 20, ground := Ground.data }, { on := 22, ground := Ground.data }, { on := 19, ground := Ground.chain }, { on := 19, ground := Ground.guard }], guard := some (19, true) }) (v := undef) rfl (by kernel_rfl) (by kernel_rfl) (by kernel_rfl) (fun _ _ _ h => h) (Or.inr ⟨by rfl, rfl⟩) hH ?_
    simp only [Act.put, List.setIfInBounds_toArray, List.set_cons_zero, List.set_cons_succ]
    refine wpAnyH_take (i := 24) (oi := { dst := some 31, op := Op.pick (Operand.tmp 26) (Operand.tmp 30) (Operand.const (Value.bool false)), type := 4, pos := "l13_registers.go:54", after := #[{ on := 19, ground := Ground.data }, { on := 23, ground := Ground.data }], guard := none }) (v := .bool false) rfl (by kernel_rfl) (by kernel_rfl) (by kernel_rfl) (fun _ _ _ h => h) (Or.inl ⟨by rfl, fun w0 hSw => by (obtain ⟨s0, s1, s2⟩ := hSw; go_simp)⟩) hH ?_
    simp only [Act.put, List.setIfInBounds_toArray, List.set_cons_zero, List.set_cons_succ]
    refine wpAnyH_take (i := 25) (oi := { dst := some 6, op := Op.assign (Operand.tmp 31), type := 4, pos := "l13_registers.go:54", after := #[{ on := 24, ground := Ground.data }, { on := 23, ground := Ground.chain }, { on := 0, ground := Ground.phase }, { on := 1, ground := Ground.phase }, { on := 2, ground := Ground.phase }, { on := 3, ground := Ground.phase }, { on := 4, ground := Ground.phase }, { on := 5, ground := Ground.phase }, { on := 6, ground := Ground.phase }, { on := 7, ground := Ground.phase }, { on := 8, ground := Ground.phase }, { on := 9, ground := Ground.phase }, { on := 10, ground := Ground.phase }, { on := 11, ground := Ground.phase }, { on := 12, ground := Ground.phase }, { on := 13, ground := Ground.phase }, { on := 14, ground := Ground.phase }, { on := 15, ground := Ground.phase }, { on := 16, ground := Ground.phase }, { on := 17, ground := Ground.phase }, { on := 18, ground := Ground.phase }, { on := 19, ground := Ground.phase }, { on := 20, ground := Ground.phase }, { on := 21, ground := Ground.phase }, { on := 22, ground := Ground.phase }, { on := 23, ground := Ground.phase }, { on := 24, ground := Ground.phase }], guard := none }) (v := .bool false) rfl (by kernel_rfl) (by kernel_rfl) (by kernel_rfl) (fun _ _ _ h => h) (Or.inl ⟨by rfl, fun w0 hSw => by (obtain ⟨s0, s1, s2⟩ := hSw; go_simp)⟩) hH ?_
    simp only [Act.put, List.setIfInBounds_toArray, List.set_cons_zero, List.set_cons_succ]
    refine wpAnyH_done (by kernel_rfl) ?_ _
    clear hH
    go_wp2
    go_ret
    exact ⟨rfl, HBV.out.trans (F3.mono HBV.out.size)⟩
  have h37 : ∀ v, Below V.heap.size V v → Calls Tryz.prog 37 #[.agg #[.slice ad m cp, .int .i64 Kp, .int .i64 S], .int .i64 pl] v fun e w' => e = .returned (.bool true) ∧ Below v.heap.size v w' := fun v b => counts37 ad m cp W Kp S pl v (by omega) p2 hr (hW.next (BV.trans (b.mono BV.size))) true (fun _ => rfl) (fun h => absurd qC h)
  have h38 : ∀ v, Below V.heap.size V v → Calls Tryz.prog 38 #[.slice (some ⟨a, 0, none⟩) n cap, .slice ad m cp] v fun e w' => e = .returned (.bool res) ∧ Below v.heap.size v w' := fun v b => apart38 n a cap c.R c ad m cp W v r4 eR (hW.next (BV.trans (b.mono BV.size))) (fun v' b' => h54 hg0 v' ((BV.trans (b.mono BV.size)).trans (b'.mono (BV.trans (b.mono BV.size)).size)))
    (fun x i hi => by
      have hm' : (lsF (clB c c.R n x) c.R).getD i 0 ∈ lsF (clB c c.R n x) c.R := by simp [List.getD, hi]
      obtain ⟨h0, h1, h2⟩ := (lsm (clB c c.R n x) c.R _).1 hm'
      exact ⟨((lsF (clB c c.R n x) c.R).getD i 0).toNat, by omega, by omega, h2⟩)
    (fun x s hs hcl => by
      have hm' : (s : Int) ∈ lsF (clB c c.R n x) c.R := (lsm (clB c c.R n x) c.R _).2 ⟨by omega, by omega, by rw [Int.toNat_natCast]; exact hcl⟩
      obtain ⟨i, hi, h1⟩ := List.getElem_of_mem hm'
      exact ⟨i, hi, by simp [List.getD, hi, h1]⟩)
    (fun x => by have := ls_len (clB c c.R n x) c.R; omega) res (fun h => HY.out (HAh.out.2 ⟨qC, h⟩)) (fun h => HN.out (fun q => h (HAh.out.1 q).2))
  clear hg hgN RI hX hW BV h54 G hr HN HY hg0 K hD hR eR HAh qC
  go_enter Tryz.func18, Tryz.ntmps18
  go_upto_region 1 with fail
  refine wp_region_held_drew (S := Bx w.heap.size ad m cp Kp S) (by kernel_rfl) (Bx.next ⟨D0, D1, D2⟩ BD) (fun hH => ?_)
  refine wpAnyH_take (i := 0) (oi := { dst := some 7, op := Op.move (Operand.tmp 0), type := 29, pos := "l13_registers.go:54", after := #[], guard := none }) (v := .slice (some ⟨a, 0, none⟩) n cap) rfl (by kernel_rfl) (by kernel_rfl) (by kernel_rfl) (fun _ _ _ h => h) (Or.inl ⟨by rfl, fun w0 hSw => by (obtain ⟨s0, s1, s2⟩ := hSw; go_simp)⟩) hH ?_
  simp only [Act.put, List.setIfInBounds_toArray, List.set_cons_zero, List.set_cons_succ]
  refine wpAnyH_ready (rs := [1]) (by kernel_rfl) (by simp) ?_
  refine (AllReadyH.cons (o := { dst := some 8, op := Op.call { callee := Callee.value (Operand.func 26), args := #[Operand.tmp 7], argTypes := #[29] }, type := 4, pos := "l13_registers.go:54", after := #[{ on := 0, ground := Ground.data }], guard := none }) rfl (fun K hK => ?_) AllReadyH.nil)
  refine step_callW 26 #[.slice (some ⟨a, 0, none⟩) n cap] (fun z v w' => z = .bool true ∧ Below v.heap.size v w') (by rfl) (by go_simp) ((h26 _ BD).mono fun e w' ⟨h1, h2⟩ => ⟨_, h1, rfl, h2⟩) ?_
  rintro zw1 w1 ⟨rfl, Bw1⟩
  simp only [Act.put, List.setIfInBounds_toArray, List.set_cons_zero, List.set_cons_succ]
  refine hK.out _ _ (hH.next Bw1) (fun hH' => ?_)
  clear hK K
  replace hH := hH'
  clear hH'
  have F1 : Below V.heap.size V w1 := BD.trans (Bw1.mono (Nat.le_refl _))
  refine wpAnyH_take (i := 2) (oi := { dst := some 9, op := Op.move (Operand.tmp 8), type := 4, pos := "l13_registers.go:54", after := #[{ on := 1, ground := Ground.data }, { on := 1, ground := Ground.chain }], guard := none }) (v := .bool true) rfl (by kernel_rfl) (by kernel_rfl) (by kernel_rfl) (fun _ _ _ h => h) (Or.inl ⟨by rfl, fun w0 hSw => by (obtain ⟨s0, s1, s2⟩ := hSw; go_simp)⟩) hH ?_
  simp only [Act.put, List.setIfInBounds_toArray, List.set_cons_zero, List.set_cons_succ]
  refine wpAnyH_take (i := 3) (oi := { dst := some 10, op := Op.move (Operand.tmp 2), type := 3, pos := "l13_registers.go:54", after := #[{ on := 2, ground := Ground.guard }], guard := some (2, true) }) (v := .int .i64 pl) rfl (by kernel_rfl) (by kernel_rfl) (by kernel_rfl) (fun _ _ _ h => h) (Or.inl ⟨by rfl, fun w0 hSw => by (obtain ⟨s0, s1, s2⟩ := hSw; go_simp)⟩) hH ?_
  simp only [Act.put, List.setIfInBounds_toArray, List.set_cons_zero, List.set_cons_succ]
  refine wpAnyH_ready (rs := [4]) (by kernel_rfl) (by simp) ?_
  refine (AllReadyH.cons (o := { dst := some 11, op := Op.call { callee := Callee.value (Operand.func 27), args := #[Operand.tmp 10], argTypes := #[3] }, type := 4, pos := "l13_registers.go:54", after := #[{ on := 3, ground := Ground.data }, { on := 2, ground := Ground.chain }, { on := 2, ground := Ground.guard }], guard := some (2, true) }) rfl (fun K hK => ?_) AllReadyH.nil)
  refine step_callW 27 #[.int .i64 pl] (fun z v w' => z = .bool true ∧ w' = v) (by rfl) (by go_simp) ((h27 _).mono fun e w' ⟨h1, h2⟩ => ⟨_, h1, rfl, h2⟩) ?_
  rintro z27 w27 ⟨rfl, hw27⟩
  subst w27
  simp only [Act.put, List.setIfInBounds_toArray, List.set_cons_zero, List.set_cons_succ]
  refine hK.out _ _ hH (fun hH' => ?_)
  clear hK K hH'
  refine wpAnyH_take (i := 5) (oi := { dst := some 12, op := Op.pick (Operand.tmp 9) (Operand.tmp 11) (Operand.const (Value.bool false)), type := 4, pos := "l13_registers.go:54", after := #[{ on := 2, ground := Ground.data }, { on := 4, ground := Ground.data }], guard := none }) (v := .bool true) rfl (by kernel_rfl) (by kernel_rfl) (by kernel_rfl) (fun _ _ _ h => h) (Or.inl ⟨by rfl, fun w0 hSw => by (obtain ⟨s0, s1, s2⟩ := hSw; go_simp)⟩) hH ?_
  simp only [Act.put, List.setIfInBounds_toArray, List.set_cons_zero, List.set_cons_succ]
  refine wpAnyH_take (i := 6) (oi := { dst := some 13, op := Op.move (Operand.tmp 12), type := 4, pos := "l13_registers.go:54", after := #[{ on := 5, ground := Ground.data }, { on := 4, ground := Ground.chain }], guard := none }) (v := .bool true) rfl (by kernel_rfl) (by kernel_rfl) (by kernel_rfl) (fun _ _ _ h => h) (Or.inl ⟨by rfl, fun w0 hSw => by (obtain ⟨s0, s1, s2⟩ := hSw; go_simp)⟩) hH ?_
  simp only [Act.put, List.setIfInBounds_toArray, List.set_cons_zero, List.set_cons_succ]
  refine wpAnyH_take (i := 7) (oi := { dst := some 14, op := Op.fieldAddr 26 (Operand.tmp 4) 0, type := 0, pos := "l13_registers.go:54", after := #[{ on := 6, ground := Ground.guard }], guard := some (6, true) }) (v := .pointer (some ⟨w.heap.size, 0, none⟩)) rfl (by kernel_rfl) (by kernel_rfl) (by kernel_rfl) (fun _ _ _ h => h) (Or.inl ⟨by rfl, fun w0 hSw => by (obtain ⟨s0, s1, s2⟩ := hSw; go_simp)⟩) hH ?_
  simp only [Act.put, List.setIfInBounds_toArray, List.set_cons_zero, List.set_cons_succ]
  refine wpAnyH_take (i := 8) (oi := { dst := some 15, op := Op.load 24 (Operand.tmp 14), type := 24, pos := "l13_registers.go:54", after := #[{ on := 7, ground := Ground.data }, { on := 6, ground := Ground.guard }], guard := some (6, true) }) (v := .slice ad m cp) rfl (by kernel_rfl) (by kernel_rfl) (by kernel_rfl) (fun _ _ _ h => h) (Or.inl ⟨by rfl, fun w0 hSw => by (obtain ⟨s0, s1, s2⟩ := hSw; go_simp)⟩) hH ?_
  simp only [Act.put, List.setIfInBounds_toArray, List.set_cons_zero, List.set_cons_succ]
  refine wpAnyH_take (i := 9) (oi := { dst := some 16, op := Op.call { callee := Callee.builtin Builtin.len, args := #[Operand.tmp 15], argTypes := #[24] }, type := 3, pos := "l13_registers.go:54", after := #[{ on := 8, ground := Ground.data }, { on := 6, ground := Ground.guard }], guard := some (6, true) }) (v := .int .i64 (m : Int)) rfl (by kernel_rfl) (by kernel_rfl) (by kernel_rfl) (fun _ _ _ h => h) (Or.inl ⟨by rfl, fun w0 hSw => by (obtain ⟨s0, s1, s2⟩ := hSw; go_simp)⟩) hH ?_
  simp only [Act.put, List.setIfInBounds_toArray, List.set_cons_zero, List.set_cons_succ]
  refine wpAnyH_take (i := 10) (oi := { dst := some 17, op := Op.move (Operand.tmp 0), type := 29, pos := "l13_registers.go:54", after := #[{ on := 6, ground := Ground.guard }], guard := some (6, true) }) (v := .slice (some ⟨a, 0, none⟩) n cap) rfl (by kernel_rfl) (by kernel_rfl) (by kernel_rfl) (fun _ _ _ h => h) (Or.inl ⟨by rfl, fun w0 hSw => by (obtain ⟨s0, s1, s2⟩ := hSw; go_simp)⟩) hH ?_
  simp only [Act.put, List.setIfInBounds_toArray, List.set_cons_zero, List.set_cons_succ]
  refine wpAnyH_ready (rs := [11]) (by kernel_rfl) (by simp) ?_
  refine (AllReadyH.cons (o := { dst := some 18, op := Op.call { callee := Callee.value (Operand.func 36), args := #[Operand.tmp 17], argTypes := #[29] }, type := 3, pos := "l13_registers.go:55", after := #[{ on := 10, ground := Ground.data }, { on := 6, ground := Ground.chain }, { on := 6, ground := Ground.guard }], guard := some (6, true) }) rfl (fun K hK => ?_) AllReadyH.nil)
  refine step_callW 36 #[.slice (some ⟨a, 0, none⟩) n cap] (fun z v w' => z = .int .i64 (c.R : Int) ∧ Below v.heap.size v w') (by rfl) (by go_simp) ((h36 _ F1).mono fun e w' ⟨h1, h2⟩ => ⟨_, h1, rfl, h2⟩) ?_
  rintro zw2 w2 ⟨rfl, Bw2⟩
  simp only [Act.put, List.setIfInBounds_toArray, List.set_cons_zero, List.set_cons_succ]
  refine hK.out _ _ (hH.next Bw2) (fun hH' => ?_)
  clear hK K
  replace hH := hH'
  clear hH'
  have F2 : Below V.heap.size V w2 := F1.trans (Bw2.mono F1.size)
  refine wpAnyH_take (i := 12) (oi := { dst := some 19, op := Op.binOp BinOp.eql 3 (Operand.tmp 16) (Operand.tmp 18) 3, type := 4, pos := "l13_registers.go:54", after := #[{ on := 9, ground := Ground.data }, { on := 11, ground := Ground.data }, { on := 6, ground := Ground.guard }], guard := some (6, true) }) (v := .bool true) rfl (by kernel_rfl) (by kernel_rfl) (by kernel_rfl) (fun _ _ _ h => h) (Or.inl ⟨by rfl, fun w0 hSw => by (obtain ⟨s0, s1, s2⟩ := hSw; go_simp)⟩) hH ?_
  simp only [Act.put, List.setIfInBounds_toArray, List.set_cons_zero, List.set_cons_succ]
  refine wpAnyH_take (i := 13) (oi := { dst := some 20, op := Op.pick (Operand.tmp 13) (Operand.tmp 19) (Operand.const (Value.bool false)), type := 4, pos := "l13_registers.go:54", after := #[{ on := 6, ground := Ground.data }, { on := 12, ground := Ground.data }], guard := none }) (v := .bool true) rfl (by kernel_rfl) (by kernel_rfl) (by kernel_rfl) (fun _ _ _ h => h) (Or.inl ⟨by rfl, fun w0 hSw => by (obtain ⟨s0, s1, s2⟩ := hSw; go_simp)⟩) hH ?_
  simp only [Act.put, List.setIfInBounds_toArray, List.set_cons_zero, List.set_cons_succ]
  refine wpAnyH_take (i := 14) (oi := { dst := some 21, op := Op.move (Operand.tmp 20), type := 4, pos := "l13_registers.go:54", after := #[{ on := 13, ground := Ground.data }, { on := 11, ground := Ground.chain }], guard := none }) (v := .bool true) rfl (by kernel_rfl) (by kernel_rfl) (by kernel_rfl) (fun _ _ _ h => h) (Or.inl ⟨by rfl, fun w0 hSw => by (obtain ⟨s0, s1, s2⟩ := hSw; go_simp)⟩) hH ?_
  simp only [Act.put, List.setIfInBounds_toArray, List.set_cons_zero, List.set_cons_succ]
  refine wpAnyH_take (i := 15) (oi := { dst := some 22, op := Op.load 26 (Operand.tmp 4), type := 26, pos := "l13_registers.go:54", after := #[{ on := 14, ground := Ground.guard }], guard := some (14, true) }) (v := .agg #[.slice ad m cp, .int .i64 Kp, .int .i64 S]) rfl (by kernel_rfl) (by kernel_rfl) (by kernel_rfl) (fun _ _ _ h => h) (Or.inl ⟨by rfl, fun w0 hSw => by (obtain ⟨s0, s1, s2⟩ := hSw; go_simp)⟩) hH ?_
  simp only [Act.put, List.setIfInBounds_toArray, List.set_cons_zero, List.set_cons_succ]
  refine wpAnyH_take (i := 16) (oi := { dst := some 23, op := Op.move (Operand.tmp 2), type := 3, pos := "l13_registers.go:54", after := #[{ on := 14, ground := Ground.guard }], guard := some (14, true) }) (v := .int .i64 pl) rfl (by kernel_rfl) (by kernel_rfl) (by kernel_rfl) (fun _ _ _ h => h) (Or.inl ⟨by rfl, fun w0 hSw => by (obtain ⟨s0, s1, s2⟩ := hSw; go_simp)⟩) hH ?_
  simp only [Act.put, List.setIfInBounds_toArray, List.set_cons_zero, List.set_cons_succ]
  refine wpAnyH_ready (rs := [17]) (by kernel_rfl) (by simp) ?_
  refine (AllReadyH.cons (o := { dst := some 24, op := Op.call { callee := Callee.value (Operand.func 37), args := #[Operand.tmp 22, Operand.tmp 23], argTypes := #[26, 3] }, type := 4, pos := "l13_registers.go:55", after := #[{ on := 15, ground := Ground.data }, { on := 16, ground := Ground.data }, { on := 14, ground := Ground.chain }, { on := 14, ground := Ground.guard }], guard := some (14, true) }) rfl (fun K hK => ?_) AllReadyH.nil)
  refine step_callW 37 #[.agg #[.slice ad m cp, .int .i64 Kp, .int .i64 S], .int .i64 pl] (fun z v w' => z = .bool true ∧ Below v.heap.size v w') (by rfl) (by go_simp) ((h37 _ F2).mono fun e w' ⟨h1, h2⟩ => ⟨_, h1, rfl, h2⟩) ?_
  rintro zw3 w3 ⟨rfl, Bw3⟩
  simp only [Act.put, List.setIfInBounds_toArray, List.set_cons_zero, List.set_cons_succ]
  refine hK.out _ _ (hH.next Bw3) (fun hH' => ?_)
  clear hK K
  replace hH := hH'
  clear hH'
  have F3 : Below V.heap.size V w3 := F2.trans (Bw3.mono F2.size)
  refine wpAnyH_take (i := 18) (oi := { dst := some 25, op := Op.pick (Operand.tmp 21) (Operand.tmp 24) (Operand.const (Value.bool false)), type := 4, pos := "l13_registers.go:54", after := #[{ on := 14, ground := Ground.data }, { on := 17, ground := Ground.data }], guard := none }) (v := .bool true) rfl (by kernel_rfl) (by kernel_rfl) (by kernel_rfl) (fun _ _ _ h => h) (Or.inl ⟨by rfl, fun w0 hSw => by (obtain ⟨s0, s1, s2⟩ := hSw; go_simp)⟩) hH ?_
  simp only [Act.put, List.setIfInBounds_toArray, List.set_cons_zero, List.set_cons_succ]
  refine wpAnyH_take (i := 19) (oi := { dst := some 26, op := Op.move (Operand.tmp 25), type := 4, pos := "l13_registers.go:54", after := #[{ on := 18, ground := Ground.data }, { on := 17, ground := Ground.chain }], guard := none }) (v := .bool true) rfl (by kernel_rfl) (by kernel_rfl) (by kernel_rfl) (fun _ _ _ h => h) (Or.inl ⟨by rfl, fun w0 hSw => by (obtain ⟨s0, s1, s2⟩ := hSw; go_simp)⟩) hH ?_
  simp only [Act.put, List.setIfInBounds_toArray, List.set_cons_zero, List.set_cons_succ]
  refine wpAnyH_take (i := 20) (oi := { dst := some 27, op := Op.move (Operand.tmp 0), type := 29, pos := "l13_registers.go:54", after := #[{ on := 19, ground := Ground.guard }], guard := some (19, true) }) (v := .slice (some ⟨a, 0, none⟩) n cap) rfl (by kernel_rfl) (by kernel_rfl) (by kernel_rfl) (fun _ _ _ h => h) (Or.inl ⟨by rfl, fun w0 hSw => by (obtain ⟨s0, s1, s2⟩ := hSw; go_simp)⟩) hH ?_
  simp only [Act.put, List.setIfInBounds_toArray, List.set_cons_zero, List.set_cons_succ]
  refine wpAnyH_take (i := 21) (oi := { dst := some 28, op := Op.fieldAddr 26 (Operand.tmp 4) 0, type := 0, pos := "l13_registers.go:54", after := #[{ on := 19, ground := Ground.guard }], guard := some (19, true) }) (v := .pointer (some ⟨w.heap.size, 0, none⟩)) rfl (by kernel_rfl) (by kernel_rfl) (by kernel_rfl) (fun _ _ _ h => h) (Or.inl ⟨by rfl, fun w0 hSw => by (obtain ⟨s0, s1, s2⟩ := hSw; go_simp)⟩) hH ?_
  simp only [Act.put, List.setIfInBounds_toArray, List.set_cons_zero, List.set_cons_succ]
  refine wpAnyH_take (i := 22) (oi := { dst := some 29, op := Op.load 24 (Operand.tmp 28), type := 24, pos := "l13_registers.go:54", after := #[{ on := 21, ground := Ground.data }, { on := 19, ground := Ground.guard }], guard := some (19, true) }) (v := .slice ad m cp) rfl (by kernel_rfl) (by kernel_rfl) (by kernel_rfl) (fun _ _ _ h => h) (Or.inl ⟨by rfl, fun w0 hSw => by (obtain ⟨s0, s1, s2⟩ := hSw; go_simp)⟩) hH ?_
  simp only [Act.put, List.setIfInBounds_toArray, List.set_cons_zero, List.set_cons_succ]
  refine wpAnyH_ready (rs := [23]) (by kernel_rfl) (by simp) ?_
  refine (AllReadyH.cons (o := { dst := some 30, op := Op.call { callee := Callee.value (Operand.func 38), args := #[Operand.tmp 27, Operand.tmp 29], argTypes := #[55, 24] }, type := 4, pos := "l13_registers.go:55", after := #[{ on := 20, ground := Ground.data }, { on := 22, ground := Ground.data }, { on := 19, ground := Ground.chain }, { on := 19, ground := Ground.guard }], guard := some (19, true) }) rfl (fun K hK => ?_) AllReadyH.nil)
  refine step_callW 38 #[.slice (some ⟨a, 0, none⟩) n cap, .slice ad m cp] (fun z v w' => z = .bool res ∧ Below v.heap.size v w') (by rfl) (by go_simp) ((h38 _ F3).mono fun e w' ⟨h1, h2⟩ => ⟨_, h1, rfl, h2⟩) ?_
  rintro zw4 w4 ⟨rfl, Bw4⟩
  simp only [Act.put, List.setIfInBounds_toArray, List.set_cons_zero, List.set_cons_succ]
  refine hK.out _ _ (hH.next Bw4) (fun hH' => ?_)
  clear hK K
  replace hH := hH'
  clear hH'
  have F4 : Below V.heap.size V w4 := F3.trans (Bw4.mono F3.size)
  refine wpAnyH_take (i := 24) (oi := { dst := some 31, op := Op.pick (Operand.tmp 26) (Operand.tmp 30) (Operand.const (Value.bool false)), type := 4, pos := "l13_registers.go:54", after := #[{ on := 19, ground := Ground.data }, { on := 23, ground := Ground.data }], guard := none }) (v := .bool res) rfl (by kernel_rfl) (by kernel_rfl) (by kernel_rfl) (fun _ _ _ h => h) (Or.inl ⟨by rfl, fun w0 hSw => by (obtain ⟨s0, s1, s2⟩ := hSw; go_simp)⟩) hH ?_
  simp only [Act.put, List.setIfInBounds_toArray, List.set_cons_zero, List.set_cons_succ]
  refine wpAnyH_take (i := 25) (oi := { dst := some 6, op := Op.assign (Operand.tmp 31), type := 4, pos := "l13_registers.go:54", after := #[{ on := 24, ground := Ground.data }, { on := 23, ground := Ground.chain }, { on := 0, ground := Ground.phase }, { on := 1, ground := Ground.phase }, { on := 2, ground := Ground.phase }, { on := 3, ground := Ground.phase }, { on := 4, ground := Ground.phase }, { on := 5, ground := Ground.phase }, { on := 6, ground := Ground.phase }, { on := 7, ground := Ground.phase }, { on := 8, ground := Ground.phase }, { on := 9, ground := Ground.phase }, { on := 10, ground := Ground.phase }, { on := 11, ground := Ground.phase }, { on := 12, ground := Ground.phase }, { on := 13, ground := Ground.phase }, { on := 14, ground := Ground.phase }, { on := 15, ground := Ground.phase }, { on := 16, ground := Ground.phase }, { on := 17, ground := Ground.phase }, { on := 18, ground := Ground.phase }, { on := 19, ground := Ground.phase }, { on := 20, ground := Ground.phase }, { on := 21, ground := Ground.phase }, { on := 22, ground := Ground.phase }, { on := 23, ground := Ground.phase }, { on := 24, ground := Ground.phase }], guard := none }) (v := .bool res) rfl (by kernel_rfl) (by kernel_rfl) (by kernel_rfl) (fun _ _ _ h => h) (Or.inl ⟨by rfl, fun w0 hSw => by (obtain ⟨s0, s1, s2⟩ := hSw; go_simp)⟩) hH ?_
  simp only [Act.put, List.setIfInBounds_toArray, List.set_cons_zero, List.set_cons_succ]
  refine wpAnyH_done (by kernel_rfl) ?_ _
  clear hH
  go_wp2
  go_ret
  exact ⟨rfl, HBV.out.trans (F4.mono HBV.out.size)⟩
end Go.Proofs.YtmeokhppaekhpaaGreatDoor
namespace Go.Proofs.YtmeokhppaekhpaaGreatDoor
open Go.ChangeShapes Go.WideShapes Go.ChangeAt Go.RowKit
set_option linter.unusedVariables false
set_option maxRecDepth 100000 in
theorem sz6z (a : Option Addr) (n cap : Nat) (w : World) (hn : n ≤ 9223372036854775807) : Calls Tryz.prog 6 #[.slice a n cap, .int .i64 1048576] w fun r w' => (∃ z : Int, r = .returned (.int .i64 z) ∧ (z < 0 ∨ 0 ≤ z ∧ z ≤ 1048576 ∧ n ≤ 1048576)) ∧ w' = w := by
  by_cases big : 1048576 < n
  · have h : (1048576 : Int) - (n : Int) < 0 := by omega
    go_enter Tryz.func6, Tryz.ntmps6
    go_wp2
    go_ret
    exact ⟨⟨-1, rfl, Or.inl (by decide)⟩, rfl⟩
  · have h : 0 ≤ (1048576 : Int) - (n : Int) := by omega
    go_enter Tryz.func6, Tryz.ntmps6
    go_wp2
    go_ret
    exact ⟨⟨_, rfl, Or.inr ⟨h, by omega, by omega⟩⟩, rfl⟩
set_option maxRecDepth 100000 in
theorem sz33 (a : Option Addr) (n cap : Nat) (z : Int) (w : World) (hn : n ≤ 9223372036854775807) (z0 : 0 ≤ z) (z1 : z ≤ 1048576) : Calls Tryz.prog 33 #[.slice a n cap, .int .i64 z] w fun r w' => (∃ y : Int, r = .returned (.int .i64 y) ∧ (y < 0 ∨ 0 ≤ y ∧ n ≤ 1048576)) ∧ w' = w := by
  by_cases big : z < (n : Int)
  · have h : z - (n : Int) < 0 := by omega
    go_enter Tryz.func33, Tryz.ntmps33
    go_wp2
    go_ret
    exact ⟨⟨-1, rfl, Or.inl (by decide)⟩, rfl⟩
  · have h : 0 ≤ z - (n : Int) := by omega
    go_enter Tryz.func33, Tryz.ntmps33
    go_wp2
    go_ret
    exact ⟨⟨_, rfl, Or.inr ⟨h, by omega⟩⟩, rfl⟩
set_option maxRecDepth 100000 in
theorem sz15 (ad : Option Addr) (m cp : Nat) (Kp S z : Int) (w : World) (hn : m ≤ 9223372036854775807) (z0 : 0 ≤ z) (z1 : z ≤ 1048576) : Calls Tryz.prog 15 #[.agg #[.slice ad m cp, .int .i64 Kp, .int .i64 S], .int .i64 z] w fun r w' => (∃ y : Int, r = .returned (.int .i64 y) ∧ (y < 0 ∨ 0 ≤ y ∧ m ≤ 1048576)) ∧ Below w.heap.size w w' := by
  have h33 := fun v => sz33 ad m cp z v hn z0 z1
  have HB : Hid (Below w.heap.size w (w.alloc (.cells #[.slice ad m cp, .int .i64 Kp, .int .i64 S] 36))) := (Below.refl _ _).alloc (Nat.le_refl _) _
  go_enter Tryz.func15, Tryz.ntmps15
  go_wp2_with (go_at_call 33; refine (h33 _).mono ?_)
  rintro e w1 ⟨⟨y, rfl, hy⟩, hw⟩
  subst w1
  by_cases y0 : y < 0
  · go_wp2
    go_ret
    exact ⟨⟨_, rfl, Or.inl (by decide)⟩, HB.out⟩
  · have HY := Hid.mk' (hy.resolve_left y0)
    clear hy
    go_wp2
    go_ret
    exact ⟨⟨_, rfl, Or.inr HY.out⟩, HB.out⟩
set_option maxRecDepth 100000 in
set_option maxHeartbeats 2000000 in
theorem toI35 (ad : Option Addr) (m cp : Nat) (W : Nat → Int) (w : World) (hm : m ≤ 1048576) (hW : WRow w ad m W) : Calls Tryz.prog 35 #[.slice ad m cp] w fun e w' => e = .returned (.slice (some ⟨w.heap.size, 0, none⟩) m m) ∧ Own w' w.heap.size m (fun i => .int .i64 (W i)) ∧ Below w.heap.size w w' := by
  obtain ⟨i3, hi3, hz30, hz31, hz32⟩ := info_parts info3
  have HW := Hid.mk' hW
  clear hW
  go_enter Tryz.func35, Tryz.ntmps35
  go_wp2_with (at_make; refine wpList_make_full _ rfl _ _ 24 rfl w.heap.size 3 i3 (.int .i64 0) 1 Tryz.underlying24 hi3 hz30 hz31 .i64 .i64 _ _ m rfl rfl rfl rfl ?b2 ?b3 (Nat.le_refl _) ?_)
  case b2 => (try rw [hz32]); omega
  case b3 => (try unfold maxLen); omega
  intro w1 hown hgrow
  have A1 : Own w1 w.heap.size m (fun _ => .int .i64 0) := own_made (by rw [Nat.mul_one]; exact hown)
  have B1 : Hid (Below w.heap.size w w1) := ⟨hgrow.os, hgrow.tape, hgrow.output, hgrow.size, fun k hk => hgrow.block k hk (by simp)⟩
  have O1 : Hid (Own w1 w.heap.size m (fun i => if i < 0 then .int .i64 (W i) else .int .i64 0)) := A1.mono (Nat.le_refl _) (fun i hi => by rw [if_neg (by omega)])
  clear hown hgrow A1
  go_wp2
  go_loopw [4] (fun i wx => ∃ k : Nat, k ≤ m ∧ i = .int .i64 k ∧ Hid (Own wx w.heap.size m (fun i => if i < k then .int .i64 (W i) else .int .i64 0)) ∧ Hid (Below w.heap.size w wx)) (fun i _ => m - (intOf i).toNat)
  case atStart => exact ⟨0, Nat.zero_le _, rfl, O1, B1⟩
  case round =>
    obtain ⟨k, hk, rfl, OJ, BJ⟩ := hrel
    clear O1 B1
    by_cases hkm : k < m
    · have i1 : (k : Int) < (m : Int) := by omega
      have i0 : (0 : Int) ≤ (k : Int) := by omega
      obtain ⟨g, o, rfl, ck0⟩ := HW.out k hkm
      have ck := cell_nx ck0 BJ.out
      have c0 : wr.cell? ⟨w.heap.size, k, none⟩ = some (.int .i64 0) := by have := OJ.out.cell k hkm; rw [if_neg (by omega)] at this; exact this
      have f0 := OJ.out.free k
      have ON : Hid (Own (wr.setCell ⟨w.heap.size, k, none⟩ (.int .i64 (W k))) w.heap.size m (fun i => if i < k + 1 then .int .i64 (W i) else .int .i64 0)) := OJ.out.set k _ hkm (fun i hi => by
        by_cases e : i = k
        · subst e; rw [if_pos (by omega), if_pos rfl]
        · rw [if_neg e]
          by_cases q : i < k
          · rw [if_pos q, if_pos (by omega)]
          · rw [if_neg q, if_neg (by omega)])
      have BN : Hid (Below w.heap.size w (wr.setCell ⟨w.heap.size, k, none⟩ (.int .i64 (W k)))) := BJ.out.setCell (p := ⟨w.heap.size, k, none⟩) (Nat.le_refl _) _
      generalize W k = x at ck ON BN
      clear ck0 OJ BJ
      go_wp2
      go_roundw
      case rel => exact ⟨k + 1, by omega, by go_num, ON, BN⟩
      case measure => simp [intOf]; omega
    · obtain rfl : m = k := by omega
      have i1 : ¬ (m : Int) < (m : Int) := by omega
      have OE : Hid (Own wr w.heap.size m (fun i => .int .i64 (W i))) := OJ.out.mono (Nat.le_refl _) (fun i hi => by rw [if_pos hi])
      clear OJ
      go_wp2
      go_ret
      exact ⟨rfl, OE.out, BJ.out⟩
theorem own_wrow {w : World} {g m : Nat} {W : Nat → Int} (h : Own w g m (fun i => .int .i64 (W i))) : WRow w (some ⟨g, 0, none⟩) m W := fun i hi => ⟨g, 0, rfl, by rw [Nat.zero_add]; exact h.cell i hi⟩
set_option maxRecDepth 100000 in
set_option maxHeartbeats 4000000 in
theorem toA17 (ad : Option Addr) (m cp : Nat) (W : Nat → Int) (Kp S : Int) (w : World) (hm : m ≤ 1048576) (hW : WRow w ad m W) : Calls Tryz.prog 17 #[.agg #[.slice ad m cp, .int .i64 Kp, .int .i64 S]] w fun e w' => ∃ g, e = .returned (.agg #[.slice (some ⟨g, 0, none⟩) m m, .int .i64 Kp, .int .i64 S]) ∧ WRow w' (some ⟨g, 0, none⟩) m W ∧ Below w.heap.size w w' := by
  have B1 : Below w.heap.size w (w.alloc (.cells #[.slice ad m cp, .int .i64 Kp, .int .i64 S] 36)) := (Below.refl _ _).alloc (Nat.le_refl _) _
  have e0 : (w.alloc (.cells #[.slice ad m cp, .int .i64 Kp, .int .i64 S] 36)).cell? ⟨w.heap.size, 0, none⟩ = some (.slice ad m cp) := by simp
  have e1 : (w.alloc (.cells #[.slice ad m cp, .int .i64 Kp, .int .i64 S] 36)).cell? ⟨w.heap.size, 1, none⟩ = some (.int .i64 Kp) := by simp
  have e2 : (w.alloc (.cells #[.slice ad m cp, .int .i64 Kp, .int .i64 S] 36)).cell? ⟨w.heap.size, 2, none⟩ = some (.int .i64 S) := by simp
  have z1 : (w.alloc (.cells #[.slice ad m cp, .int .i64 Kp, .int .i64 S] 36)).heap.size = w.heap.size + 1 := World.size_alloc _ _
  obtain ⟨V1, hV1⟩ : ∃ V1, w.alloc (.cells #[.slice ad m cp, .int .i64 Kp, .int .i64 S] 36) = V1 := ⟨_, rfl⟩
  rw [hV1] at B1 e0 e1 e2 z1
  have B2 : Below V1.heap.size V1 (V1.alloc (.cells #[.slice none 0 0, .int .i64 0, .int .i64 0] 26)) := (Below.refl _ _).alloc (Nat.le_refl _) _
  have p0 : (V1.alloc (.cells #[.slice none 0 0, .int .i64 0, .int .i64 0] 26)).cell? ⟨V1.heap.size, 0, none⟩ = some (.slice none 0 0) := by simp
  have p1 : (V1.alloc (.cells #[.slice none 0 0, .int .i64 0, .int .i64 0] 26)).cell? ⟨V1.heap.size, 1, none⟩ = some (.int .i64 0) := by simp
  have p2 : (V1.alloc (.cells #[.slice none 0 0, .int .i64 0, .int .i64 0] 26)).cell? ⟨V1.heap.size, 2, none⟩ = some (.int .i64 0) := by simp
  have pf : ∀ i, (V1.alloc (.cells #[.slice none 0 0, .int .i64 0, .int .i64 0] 26)).frozen? ⟨V1.heap.size, i, none⟩ = false := fun i => by rw [World.frozen?_alloc_mark]; simp
  have z2 : (V1.alloc (.cells #[.slice none 0 0, .int .i64 0, .int .i64 0] 26)).heap.size = V1.heap.size + 1 := World.size_alloc _ _
  obtain ⟨V2, hV2⟩ : ∃ V2, V1.alloc (.cells #[.slice none 0 0, .int .i64 0, .int .i64 0] 26) = V2 := ⟨_, rfl⟩
  rw [hV2] at B2 p0 p1 p2 pf z2
  have B3 : Below V2.heap.size V2 (V2.alloc (.cells #[.slice none 0 0, .int .i64 0, .int .i64 0] 26)) := (Below.refl _ _).alloc (Nat.le_refl _) _
  have q0 : (V2.alloc (.cells #[.slice none 0 0, .int .i64 0, .int .i64 0] 26)).cell? ⟨V2.heap.size, 0, none⟩ = some (.slice none 0 0) := by simp
  have q1 : (V2.alloc (.cells #[.slice none 0 0, .int .i64 0, .int .i64 0] 26)).cell? ⟨V2.heap.size, 1, none⟩ = some (.int .i64 0) := by simp
  have q2 : (V2.alloc (.cells #[.slice none 0 0, .int .i64 0, .int .i64 0] 26)).cell? ⟨V2.heap.size, 2, none⟩ = some (.int .i64 0) := by simp
  have qf : ∀ i, (V2.alloc (.cells #[.slice none 0 0, .int .i64 0, .int .i64 0] 26)).frozen? ⟨V2.heap.size, i, none⟩ = false := fun i => by rw [World.frozen?_alloc_mark]; simp
  have z3 : (V2.alloc (.cells #[.slice none 0 0, .int .i64 0, .int .i64 0] 26)).heap.size = V2.heap.size + 1 := World.size_alloc _ _
  obtain ⟨V, hV3⟩ : ∃ V, V2.alloc (.cells #[.slice none 0 0, .int .i64 0, .int .i64 0] 26) = V := ⟨_, rfl⟩
  rw [hV3] at B3 q0 q1 q2 qf z3
  have hV : ((w.alloc (.cells #[.slice ad m cp, .int .i64 Kp, .int .i64 S] 36)).alloc (.cells #[.slice none 0 0, .int .i64 0, .int .i64 0] 26)).alloc (.cells #[.slice none 0 0, .int .i64 0, .int .i64 0] 26) = V := by rw [hV1, hV2, hV3]
  have zV : V.heap.size = w.heap.size + 3 := by omega
  have BV : Below w.heap.size w V := (B1.trans (B2.mono B1.size)).trans (B3.mono (by omega))
  have h35 := toI35 ad m cp W V hm (hW.next BV)
  have D0 := cell_nx (cell_nx e0 B2) B3
  have D1 := cell_nx (cell_nx e1 B2) B3
  have D2 := cell_nx (cell_nx e2 B2) B3
  have P0 := cell_nx p0 B3
  have P1 := cell_nx p1 B3
  have P2 := cell_nx p2 B3
  have PF : ∀ i, V.frozen? ⟨V1.heap.size, i, none⟩ = false := fun i => (B3.frozen (p := ⟨V1.heap.size, i, none⟩) (by show V1.heap.size < _; omega)).trans (pf i)
  have QF := qf
  have Q0 := q0
  have Q1 := q1
  have Q2 := q2
  rw [show V2.heap.size = w.heap.size + 2 by omega] at Q0 Q1 Q2 QF
  rw [show V1.heap.size = w.heap.size + 1 by omega] at P0 P1 P2 PF
  clear e0 e1 e2 p0 p1 p2 pf q0 q1 q2 qf B1 B2 B3 z1 z2 z3 hV1 hV2 hV3
  have HBV := Hid.mk' BV
  have HZ := Hid.mk' zV
  clear hW BV
  go_enter Tryz.func17, Tryz.ntmps17
  go_wp2_with (go_at_call 35; refine h35.mono ?_; rintro e w1 ⟨rfl, O1, B1⟩; (have a0 := cell_nx D0 B1); (have a1 := cell_nx D1 B1); (have a2 := cell_nx D2 B1); (have b0 := cell_nx Q0 B1); (have b1 := cell_nx Q1 B1); (have b2 := cell_nx Q2 B1); (have d0 := cell_nx P0 B1); (have d1 := cell_nx P1 B1); (have d2 := cell_nx P2 B1); (have f0 := (B1.frozen (p := ⟨w.heap.size + 2, 0, none⟩) (by show w.heap.size + 2 < V.heap.size; omega)).trans (QF 0)); (have f1 := (B1.frozen (p := ⟨w.heap.size + 2, 1, none⟩) (by show w.heap.size + 2 < V.heap.size; omega)).trans (QF 1)); (have f2 := (B1.frozen (p := ⟨w.heap.size + 2, 2, none⟩) (by show w.heap.size + 2 < V.heap.size; omega)).trans (QF 2)); (have g0 := (B1.frozen (p := ⟨w.heap.size + 1, 0, none⟩) (by show w.heap.size + 1 < V.heap.size; omega)).trans (PF 0)); (have g1 := (B1.frozen (p := ⟨w.heap.size + 1, 1, none⟩) (by show w.heap.size + 1 < V.heap.size; omega)).trans (PF 1)); (have g2 := (B1.frozen (p := ⟨w.heap.size + 1, 2, none⟩) (by show w.heap.size + 1 < V.heap.size; omega)).trans (PF 2)))
  have O2 : Own w1 (w.heap.size + 3) m (fun i => .int .i64 (W i)) := by
    have h := O1
    rw [show V.heap.size = w.heap.size + 3 from HZ.out] at h
    exact h
  have HO2 := Hid.mk' O2
  have HB1 : Hid (Below w.heap.size w w1) := HBV.out.trans (B1.mono HBV.out.size)
  have hO : Hid (∀ (v : World), Own v (w.heap.size + 3) m (fun i => .int .i64 (W i)) → ∀ b i x, b ≠ w.heap.size + 3 → Own (v.setCell ⟨b, i, none⟩ x) (w.heap.size + 3) m (fun i => .int .i64 (W i))) := fun v h b i x hb => h.but ((Only.refl _ _).setCell _ _) (Ne.symm hb)
  have hS : Hid (∀ (v : World), Below w.heap.size w v → ∀ b i x, w.heap.size ≤ b → Below w.heap.size w (v.setCell ⟨b, i, none⟩ x)) := fun v h b i x hb => h.setCell (p := ⟨b, i, none⟩) hb _
  clear O1 O2 B1 h35 HBV HZ hV D0 D1 D2 Q0 Q1 Q2 QF P0 P1 P2 PF
  refine bodyPost_ret (v := .agg #[.slice (some ⟨w.heap.size + 3, 0, none⟩) m m, .int .i64 Kp, .int .i64 S]) (by simp [results, Tryz.results17, go_sem, d0, d1, d2]) rfl ?_
  refine ⟨_, rfl, own_wrow ?_, ?_⟩
  · exact hO.out _ (hO.out _ (hO.out _ (hO.out _ (hO.out _ (hO.out _ HO2.out _ _ _ (by omega)) _ _ _ (by omega)) _ _ _ (by omega)) _ _ _ (by omega)) _ _ _ (by omega)) _ _ _ (by omega)
  · exact hS.out _ (hS.out _ (hS.out _ (hS.out _ (hS.out _ (hS.out _ HB1.out _ _ _ (by omega)) _ _ _ (by omega)) _ _ _ (by omega)) _ _ _ (by omega)) _ _ _ (by omega)) _ _ _ (by omega)
set_option maxRecDepth 100000 in
set_option maxHeartbeats 4000000 in
theorem eqA10 (ad bd : Option Addr) (m cp cq : Nat) (W : Nat → Int) (Kp S : Int) (w : World) (hm : m ≤ 1048576) (hA : WRow w ad m W) (hB : WRow w bd m W) : Calls Tryz.prog 10 #[.agg #[.slice ad m cp, .int .i64 Kp, .int .i64 S], .agg #[.slice bd m cq, .int .i64 Kp, .int .i64 S]] w fun e w' => e = .returned (.bool true) ∧ Below w.heap.size w w' := by
  have B1 : Below w.heap.size w (w.alloc (.cells #[.slice ad m cp, .int .i64 Kp, .int .i64 S] 26)) := (Below.refl _ _).alloc (Nat.le_refl _) _
  have B2 := B1.trans (((Below.refl _ _).alloc (Nat.le_refl _) (.cells #[.slice bd m cq, .int .i64 Kp, .int .i64 S] 26)).mono B1.size)
  have h29 := eqI25 m ad bd cp cq W _ hm (hA.next B2) (hB.next B2)
  have HB2 := Hid.mk' B2
  clear hA hB B1 B2
  go_enter Tryz.func10, Tryz.ntmps10
  go_wp2_with (go_at_call 29; refine h29.mono ?_; rintro e w1 ⟨rfl, q, hq⟩; subst w1)
  go_ret
  exact ⟨rfl, below_drewN HB2.out q⟩
end Go.Proofs.YtmeokhppaekhpaaGreatDoor
namespace Go.Proofs.YtmeokhppaekhpaaGreatDoor
open Go.ChangeShapes Go.WideShapes Go.ChangeAt Go.RowKit
set_option linter.unusedVariables false
set_option maxHeartbeats 8000000 in
set_option maxRecDepth 100000 in
theorem allocholds_law (w : World) (G : Forms w) (s0 : Option Addr) (n0 c0 : Nat) (O D A B C X : Nat → Int) (m0 : n0 ≤ 9223372036854775807) (A0 : ArgI w s0 n0 O D A B C X) (x0 : ∀ i, 0 ≤ X i ∧ X i < 4294967296) (ad : Option Addr) (m cp : Nat) (W : Nat → Int) (Kp S pl : Int) (m1 : m ≤ 9223372036854775807) (hr : ∀ i, i < m → -9223372036854775808 ≤ W i ∧ W i ≤ 9223372036854775807) (hW : WRow w ad m W) : Calls Tryz.prog 4 #[.slice s0 n0 c0, .agg #[.slice ad m cp, .int .i64 Kp, .int .i64 S], .int .i64 pl] w fun e w' => e = .returned (.bool true) ∧ Below w.heap.size w w' := by
  obtain ⟨V, hV⟩ : ∃ V, w.alloc (.cells #[.slice ad m cp, .int .i64 Kp, .int .i64 S] 36) = V := ⟨_, rfl⟩
  have BV : Below w.heap.size w V := by rw [← hV]; exact (Below.refl _ _).alloc (Nat.le_refl _) _
  have D0 : V.cell? ⟨w.heap.size, 0, none⟩ = some (.slice ad m cp) := by rw [← hV]; simp
  have D1 : V.cell? ⟨w.heap.size, 1, none⟩ = some (.int .i64 Kp) := by rw [← hV]; simp
  have D2 : V.cell? ⟨w.heap.size, 2, none⟩ = some (.int .i64 S) := by rw [← hV]; simp
  have HX : Wds X n0 := fun i _ => x0 i
  have HS : Hid (Calls Tryz.prog 6 #[.slice s0 n0 c0, .int .i64 1048576] V fun r w' => (∃ z : Int, r = .returned (.int .i64 z) ∧ (z < 0 ∨ 0 ≤ z ∧ z ≤ 1048576 ∧ n0 ≤ 1048576)) ∧ w' = V) := sz6z s0 n0 c0 V m0
  have HT : Hid (∀ w', Below V.heap.size V w' → n0 ≤ 1048576 → Calls Tryz.prog 8 #[.slice s0 n0 c0] w' fun r w'' => r = .returned (.slice (some ⟨w'.heap.size, 0, none⟩) n0 n0) ∧ RowI w'' w'.heap.size n0 O D A B C X ∧ Below w'.heap.size w' w'') := fun w' b hn => argToI (A0.next (BV.trans (b.mono BV.size))) c0 hn
  have HA : Hid (∀ w', Below V.heap.size V w' → m ≤ 1048576 → Calls Tryz.prog 17 #[.agg #[.slice ad m cp, .int .i64 Kp, .int .i64 S]] w' fun e w'' => ∃ g, e = .returned (.agg #[.slice (some ⟨g, 0, none⟩) m m, .int .i64 Kp, .int .i64 S]) ∧ WRow w'' (some ⟨g, 0, none⟩) m W ∧ Below w'.heap.size w' w'') := fun w' b hm => toA17 ad m cp W Kp S w' hm (hW.next (BV.trans (b.mono BV.size)))
  have HF : Hid (∀ w', Below V.heap.size V w' → Forms w') := fun w' b => G.below (BV.trans (b.mono BV.size))
  obtain ⟨GG, hgd⟩ : ∃ GG, ahB ⟨O, D, A, B, C, X, n0⟩ m W Kp S pl = GG := ⟨_, rfl⟩
  have H16 : Hid (∀ a g v, n0 ≤ 1048576 → m ≤ 1048576 → RowI v a n0 O D A B C X → WRow v (some ⟨g, 0, none⟩) m W → Calls Tryz.prog 16 #[.slice (some ⟨a, 0, none⟩) n0 n0, .agg #[.slice (some ⟨g, 0, none⟩) m m, .int .i64 Kp, .int .i64 S], .int .i64 pl] v fun e w' => e = .returned (.bool GG) ∧ Below v.heap.size v w') := fun a g v hn hm r q => by rw [← hgd]; exact holds16 n0 a n0 ⟨O, D, A, B, C, X, n0⟩ rfl _ m m W Kp S pl v r HX hn hm q
  have H18 : Hid (∀ a g v, n0 ≤ 1048576 → m ≤ 1048576 → Forms v → RowI v a n0 O D A B C X → WRow v (some ⟨g, 0, none⟩) m W → Calls Tryz.prog 18 #[.slice (some ⟨a, 0, none⟩) n0 n0, .agg #[.slice (some ⟨g, 0, none⟩) m m, .int .i64 Kp, .int .i64 S], .int .i64 pl] v fun e w' => e = .returned (.bool GG) ∧ Below v.heap.size v w') := fun a g v hn hm f r q => by
    rw [← hgd]
    exact holds18 n0 a n0 ⟨O, D, A, B, C, X, n0⟩ rfl _ m m W Kp S pl v f r HX hn hm hr q (fun hg v' b => (clashes30 n0 a n0 ⟨O, D, A, B, C, X, n0⟩ rfl hg HX v' (f.below b) (r.next b)).mono fun e w' ⟨u, h1, h2, h3⟩ => ⟨u, h1, h2.arows, h3⟩)
  have HV := Hid.mk' BV
  clear A0 x0 G hW hr HX hgd BV
  go_enter Tryz.func4, Tryz.ntmps4
  go_wp2_with (go_at_call 6; refine HS.out.mono ?_)
  rintro e w1 ⟨⟨z, rfl, hz⟩, hw⟩
  subst w1
  by_cases z0 : z < 0
  · go_wp2
    go_ret
    exact ⟨rfl, HV.out⟩
  obtain ⟨z1, z2, hn⟩ := hz.resolve_left z0
  clear hz
  have h15 := sz15 ad m cp Kp S z V m1 z1 z2
  go_wp2_with (go_at_call 15; refine h15.mono ?_)
  rintro e w1 ⟨⟨y, rfl, hy⟩, B1⟩
  by_cases y0 : y < 0
  · go_wp2
    go_ret
    exact ⟨rfl, HV.out.trans (B1.mono HV.out.size)⟩
  obtain ⟨_, hm⟩ := hy.resolve_left y0
  clear hy h15
  have a0 := cell_nx D0 B1
  have a1 := cell_nx D1 B1
  have a2 := cell_nx D2 B1
  go_wp2
  go_region_with (first | (go_at_call 8; refine (HT.out _ ?_ hn).mono ?_; (focus (first | with_reducible exact B1 | with_reducible exact below_drew B1)); rintro e w2 ⟨rfl, X2, B2⟩; (have F2 : Below V.heap.size V w2 := by first | exact B1.trans (B2.mono B1.size) | exact (below_drew B1).trans (B2.mono (below_drew B1).size)); (have b0 := cell_nx D0 F2); (have b1 := cell_nx D1 F2); (have b2 := cell_nx D2 F2)) | (go_at_call 17; refine (HA.out _ ?_ hm).mono ?_; (focus (first | with_reducible exact F2 | with_reducible exact below_drew F2)); rintro e w3 ⟨g, rfl, Q3, B3⟩) | (go_at_call 16; refine (H16.out _ g _ hn hm (X2.next B3) Q3).mono ?_; rintro e w4 ⟨rfl, B4⟩))
  all_goals
    have F4 : Below V.heap.size V w4 := (F2.trans (B3.mono F2.size)).trans (B4.mono (by have := F2.size; have := B3.size; omega))
    clear a0 a1 a2 b0 b1 b2 X2 Q3 B1 B2 B3 B4 F2
    have a0 := cell_nx D0 F4
    have a1 := cell_nx D1 F4
    have a2 := cell_nx D2 F4
    go_wp2_with (first | (go_at_call 8; refine (HT.out _ F4 hn).mono ?_; rintro e w5 ⟨rfl, X5, B5⟩; (have F5 : Below V.heap.size V w5 := F4.trans (B5.mono F4.size)); (have b0 := cell_nx D0 F5); (have b1 := cell_nx D1 F5); (have b2 := cell_nx D2 F5)) | (go_at_call 17; refine (HA.out _ F5 hm).mono ?_; rintro e w6 ⟨g6, rfl, Q6, B6⟩))
    have F6 : Below V.heap.size V w6 := F5.trans (B6.mono F5.size)
    obtain ⟨w7, hw7⟩ : ∃ w7, w6.alloc (.cells #[.slice (some ⟨g6, 0, none⟩) m m, .int .i64 Kp, .int .i64 S] 26) = w7 := ⟨_, rfl⟩
    have B7 : Below w6.heap.size w6 w7 := by rw [← hw7]; exact (Below.refl _ _).alloc (Nat.le_refl _) _
    have p0 : w7.cell? ⟨w6.heap.size, 0, none⟩ = some (.slice (some ⟨g6, 0, none⟩) m m) := by rw [← hw7]; simp
    have p1 : w7.cell? ⟨w6.heap.size, 1, none⟩ = some (.int .i64 Kp) := by rw [← hw7]; simp
    have p2 : w7.cell? ⟨w6.heap.size, 2, none⟩ = some (.int .i64 S) := by rw [← hw7]; simp
    have F7 : Below V.heap.size V w7 := F6.trans (B7.mono F6.size)
    have X7 := (X5.next B6).next B7
    have Q7 := Q6.next B7
    rw [hw7]
    clear hw7 X5 Q6 a0 a1 a2 b0 b1 b2 B5 B6 B7 F4 F5 F6
    refine (H18.out _ g6 w7 hn hm (HF.out _ F7) X7 Q7).mono ?_
    rintro e w8 ⟨rfl, B8⟩
    have F8 : Below V.heap.size V w8 := F7.trans (B8.mono F7.size)
    have X8 := X7.next B8
    have Q8 := Q7.next B8
    have q0 := cell_nx p0 B8
    have q1 := cell_nx p1 B8
    have q2 := cell_nx p2 B8
    clear X7 Q7 p0 p1 p2 F7 B8
    cases GG
    all_goals
      go_wp2_with (first | (go_at_call 8; refine (HT.out _ F8 hn).mono ?_; rintro e w9 ⟨rfl, X9, B9⟩) | (go_at_call 11; refine (eqRowI (X8.next B9) X9 n0 n0 hn).mono ?_; rintro e w10 ⟨rfl, B10⟩))
      have F9 : Below V.heap.size V w9 := F8.trans (B9.mono F8.size)
      have F10 : Below V.heap.size V w10 := F9.trans (B10.mono F9.size)
      have a0 := cell_nx D0 F10
      have a1 := cell_nx D1 F10
      have a2 := cell_nx D2 F10
      have r0 := cell_nx (cell_nx q0 B9) B10
      have r1 := cell_nx (cell_nx q1 B9) B10
      have r2 := cell_nx (cell_nx q2 B9) B10
      have Q10 := (Q8.next B9).next B10
      clear Q8 q0 q1 q2 X8 X9 B9 B10 F8 F9
      go_region_with (first | (go_at_call 17; refine (HA.out _ ?_ hm).mono ?_; (focus (first | with_reducible exact F10 | with_reducible exact below_drew F10)); rintro e w11 ⟨g11, rfl, Q11, B11⟩; (have E11 : Below w10.heap.size w10 w11 := by first | exact B11 | exact (below_drew (Below.refl _ _)).trans (B11.mono (Nat.le_refl _))); (have t0 := cell_nx r0 E11); (have t1 := cell_nx r1 E11); (have t2 := cell_nx r2 E11)) | (go_at_call 10; refine (eqA10 _ _ m m m W Kp S _ hm (Q10.next E11) Q11).mono ?_; rintro e w12 ⟨rfl, B12⟩))
      all_goals
        have F11 : Below V.heap.size V w11 := F10.trans (E11.mono F10.size)
        have F12 : Below V.heap.size V w12 := F11.trans (B12.mono F11.size)
        go_wp2
        go_ret
        exact ⟨rfl, HV.out.trans (F12.mono HV.out.size)⟩
end Go.Proofs.YtmeokhppaekhpaaGreatDoor
