/- The color at a place of a level, of both sides. -/
import Derived.Test.YthkngcdfnemhaaaAk
namespace Go.Proofs.Ythkngcdfnemhaaa
open Go.ChangeShapes Go.WideShapes Go.ChangeAt Go.RowKit
set_option linter.unusedVariables false
theorem step_skip {P : Program} {ops : Array Oper} {o : Oper} {a : Act} {w : World} {K : Act → World → Prop} {Q : Exit → Act → World → Prop} {E : Prop} (w' : World) (hgd : o.guard = none) (hrun : (execOp a.eval o).run P w = .ok .skip w') (hK : K (a.put o.dst undef) w') : if Region.wanted o (yielded ops a.tmps) = true then Oper.wp P o a w K Q else E := by
  have hw : Region.wanted o (yielded ops a.tmps) = true := by simp [Region.wanted, hgd]
  rw [if_pos hw]
  unfold Oper.wp
  rw [hrun, Oper.upon_skip]
  exact hK
/-- The bytes of a row from a place on. -/
def cAt (L : List Int) (pt : Nat) (i : Nat) : Int := L.getD (pt + i) 0
theorem BRow.cut {w : World} {a : Option Addr} {c : Nat} {L : List Int} {z pt : Nat} (h : BRow w (.slice a L.length c) L) (z0 : 1 ≤ z) (hp : pt + z ≤ L.length) (hb : ∀ j, j < L.length → 0 ≤ L.getD j 0 ∧ L.getD j 0 ≤ 255) : ∃ g oo, a = some ⟨g, oo, none⟩ ∧ g < w.heap.size ∧ L.length ≤ c ∧ Bs8 w (.slice (some ⟨g, oo + pt, none⟩) z (c - pt)) z (cAt L pt) := by
  obtain ⟨ad, c', e, hc, hx⟩ := h
  injection e with e1 _ e3
  subst e1; subst e3
  obtain ⟨g, oo, rfl, h0⟩ := hx 0 (by omega)
  refine ⟨g, oo, rfl, World.block_lt_of_cell? _ _ h0, hc, g, oo + pt, _, rfl, fun i hi => ?_, fun i hi => hb _ (by omega)⟩
  obtain ⟨g', o', e1, e2⟩ := hx (pt + i) (by omega)
  injection e1 with e1
  injection e1 with e1 e3
  subst e1; subst e3
  rw [Nat.add_assoc]
  exact e2
theorem Only.cell {o : Nat} {w w' : World} (b : Only o w w') {g i : Nat} {v : Value} (h : w.cell? ⟨g, i, none⟩ = some v) (q : g ≠ o) : w'.cell? ⟨g, i, none⟩ = some v := (World.cell?_of_block (w := w) (a := ⟨g, i, none⟩) (b.block g (World.block_lt_of_cell? _ _ h) q)).trans h
set_option maxRecDepth 100000 in
set_option maxHeartbeats 2000000 in
theorem mat (s y l : Int) (v : Value) (n k pt : Nat) (F : Nat → List Int) (A px py : Int) (w : World) (R : BRows w v n F) (hk : k < n) (hf : l = 1 ∨ l = 2 ∨ l = 3) (bf : ByF n F) (ha : pt + szF l ≤ (F k).length) (hat : (py * A + px) * (szF l : Int) = pt) (b1 : 0 ≤ py * A) (b2 : py * A ≤ 256) (b3 : 0 ≤ px) (b4 : px ≤ 16) (b5 : pt ≤ 4096) (hn : n ≤ 1048576) (hlk : (F k).length ≤ 1048576) :
    Calls Try.prog 55 #[.agg #[.int .i64 s, .int .i64 y, .int .i64 l, v], .int .i64 (k : Int), .int .i64 A, .int .i64 px, .int .i64 py] w fun e w' => e = .returned (.agg #[.int .i64 (u0 l (cAt (F k) pt)), .int .i64 (u1 l (cAt (F k) pt)), .int .i64 (u2 l (cAt (F k) pt)), .int .i64 (u3 l (cAt (F k) pt))]) ∧ Below w.heap.size w w' := by
  have hz : 1 ≤ szF l ∧ szF l ≤ 4 := by rcases hf with rfl | rfl | rfl <;> decide
  obtain ⟨ad, cp, rfl, h⟩ := R
  obtain ⟨q, o, u, rfl, hc, hrow⟩ := h k hk
  obtain ⟨ra, rc, rfl, _⟩ := id hrow
  obtain ⟨g, oo, rfl, hg, hcap, X⟩ := hrow.cut hz.1 ha (fun j hj => bf k j hk hj)
  have hq := World.block_lt_of_cell? _ _ hc
  have HS : Hid (∀ w : World, Calls Try.prog 44 #[.int .i64 l] w fun e w' => e = .returned (.int .i64 (szF l)) ∧ w' = w) := fun w => size44 l w
  have HU : Hid (∀ w', Below w.heap.size w w' → Calls Try.prog 45 #[.int .i64 l, .slice (some ⟨g, oo + pt, none⟩) (szF l) (rc - pt)] w' fun e w'' => e = .returned (.agg #[.int .i64 (u0 l (cAt (F k) pt)), .int .i64 (u1 l (cAt (F k) pt)), .int .i64 (u2 l (cAt (F k) pt)), .int .i64 (u3 l (cAt (F k) pt))]) ∧ Below w'.heap.size w' w'') := fun w' b => unp45 l _ _ w' hf (X.next b)
  generalize u0 l (cAt (F k) pt) = c0 at HU ⊢
  generalize u1 l (cAt (F k) pt) = c1 at HU ⊢
  generalize u2 l (cAt (F k) pt) = c2 at HU ⊢
  generalize u3 l (cAt (F k) pt) = c3 at HU ⊢
  generalize (F k).length = lk at *
  clear X hrow h bf
  generalize szF l = Z at *
  obtain ⟨z1, z2⟩ := hz
  obtain ⟨yA, hyA⟩ : ∃ yA, py * A = yA := ⟨_, rfl⟩
  rw [hyA] at hat b1 b2
  have e1 : IntKind.i64.wrap (py * A) = yA := by rw [hyA]; exact (IntKind.wrap_i64 _).trans (by omega)
  have e2 : IntKind.i64.wrap ((yA + px) * (Z : Int)) = (pt : Int) := by rw [hat]; exact (IntKind.wrap_i64 _).trans (by omega)
  have HBX : Hid (Below w.heap.size w ((w.alloc (.cells #[.int .i64 s, .int .i64 y, .int .i64 l, .slice (some ⟨q, o, none⟩) n cp] 43)).alloc (.cells #[.int .i64 0, .int .i64 0, .int .i64 0, .int .i64 0] 25))) := b2_
  have DX : C4 ((w.alloc (.cells #[.int .i64 s, .int .i64 y, .int .i64 l, .slice (some ⟨q, o, none⟩) n cp] 43)).alloc (.cells #[.int .i64 0, .int .i64 0, .int .i64 0, .int .i64 0] 25)) (w.heap.size + 1) (.int .i64 0) (.int .i64 0) (.int .i64 0) (.int .i64 0) := by
    have h := C4.new (w.alloc (.cells #[.int .i64 s, .int .i64 y, .int .i64 l, .slice (some ⟨q, o, none⟩) n cp] 43)) 25 (.int .i64 0) (.int .i64 0) (.int .i64 0) (.int .i64 0)
    rwa [World.size_alloc] at h
  have TX := (C4.new w 43 (.int .i64 s) (.int .i64 y) (.int .i64 l) (.slice (some ⟨q, o, none⟩) n cp)).next (alloc_b (o := .cells #[.int .i64 0, .int .i64 0, .int .i64 0, .int .i64 0] 25))
  have SX : Hid (_ ∧ _ ∧ _) := ⟨TX.c2, TX.c3, cell_nx hc HBX.out⟩
  have i0 : (0 : Int) ≤ (k : Int) := by omega
  have i1 : (k : Int) < (n : Int) := by omega
  have j0 : (0 : Int) ≤ (pt : Int) := by omega
  have j1 : (pt : Int) ≤ (pt : Int) + (Z : Int) := by omega
  have j2 : (pt : Int) + (Z : Int) ≤ (rc : Int) := by omega
  have j3 : ((pt : Int) + (Z : Int)).toNat - pt = Z := by omega
  have hne : ¬ rc - pt = 0 := by omega
  have HQ := Hid.mk hat
  clear TX hat hyA hc
  go_enter Try.func55, Try.ntmps55
  go_wp2_with (go_at_call 44; refine (HS.out _).mono ?_; rintro e w2 ⟨rfl, hw⟩; subst w2)
  generalize hWW : World.drew _ = WX
  have HBX := Hid.mk (below_drew HBX.out)
  have DX := DX.next (below_drew (Below.refl _ _))
  have SX := SX.out
  rw [hWW] at HBX DX
  refine wp_region_held_drew (S := fun v => v.cell? ⟨w.heap.size, 2, none⟩ = some (.int .i64 l) ∧ v.cell? ⟨w.heap.size, 3, none⟩ = some (.slice (some ⟨q, o, none⟩) n cp) ∧ v.cell? ⟨q, o + k, none⟩ = some (.slice (some ⟨g, oo, none⟩) lk rc)) (by kernel_rfl) SX (fun hH => ?_)
  rw [hWW] at hH ⊢
  clear hWW SX
  refine wpAnyH_take (i := 0) (oi := { dst := some 23, op := Op.fieldAddr 43 (Operand.tmp 5) 2, type := 0, pos := "l16_texture.go:96", after := #[], guard := none }) (v := .pointer (some ⟨w.heap.size, 2, none⟩)) rfl (by kernel_rfl) (by kernel_rfl) (by kernel_rfl) (fun _ _ _ h => h) (Or.inl ⟨by rfl, fun w0 hSw => by (go_simp)⟩) hH ?_
  simp only [Act.put, List.setIfInBounds_toArray, List.set_cons_zero, List.set_cons_succ]
  refine wpAnyH_take (i := 1) (oi := { dst := some 24, op := Op.load 3 (Operand.tmp 23), type := 3, pos := "l16_texture.go:96", after := #[{ on := 0, ground := Ground.data }], guard := none }) (v := .int .i64 l) rfl (by kernel_rfl) (by kernel_rfl) (by kernel_rfl) (fun _ _ _ h => h) (Or.inl ⟨by rfl, fun w0 hSw => by ((have e9 := hSw.1); go_simp)⟩) hH ?_
  simp only [Act.put, List.setIfInBounds_toArray, List.set_cons_zero, List.set_cons_succ]
  refine wpAnyH_take (i := 2) (oi := { dst := some 25, op := Op.fieldAddr 43 (Operand.tmp 5) 3, type := 0, pos := "l16_texture.go:96", after := #[], guard := none }) (v := .pointer (some ⟨w.heap.size, 3, none⟩)) rfl (by kernel_rfl) (by kernel_rfl) (by kernel_rfl) (fun _ _ _ h => h) (Or.inl ⟨by rfl, fun w0 hSw => by (go_simp)⟩) hH ?_
  simp only [Act.put, List.setIfInBounds_toArray, List.set_cons_zero, List.set_cons_succ]
  refine wpAnyH_take (i := 3) (oi := { dst := some 26, op := Op.load 38 (Operand.tmp 25), type := 38, pos := "l16_texture.go:96", after := #[{ on := 2, ground := Ground.data }], guard := none }) (v := .slice (some ⟨q, o, none⟩) n cp) rfl (by kernel_rfl) (by kernel_rfl) (by kernel_rfl) (fun _ _ _ h => h) (Or.inl ⟨by rfl, fun w0 hSw => by ((have e9 := hSw.2.1); go_simp)⟩) hH ?_
  simp only [Act.put, List.setIfInBounds_toArray, List.set_cons_zero, List.set_cons_succ]
  refine wpAnyH_take (i := 4) (oi := { dst := some 27, op := Op.move (Operand.tmp 1), type := 3, pos := "l16_texture.go:96", after := #[], guard := none }) (v := .int .i64 (k : Int)) rfl (by kernel_rfl) (by kernel_rfl) (by kernel_rfl) (fun _ _ _ h => h) (Or.inl ⟨by rfl, fun w0 hSw => by (go_simp)⟩) hH ?_
  simp only [Act.put, List.setIfInBounds_toArray, List.set_cons_zero, List.set_cons_succ]
  refine wpAnyH_take (i := 5) (oi := { dst := some 28, op := Op.indexAddr 38 (Operand.tmp 26) (Operand.tmp 27), type := 0, pos := "l16_texture.go:96", after := #[{ on := 3, ground := Ground.data }, { on := 4, ground := Ground.data }], guard := none }) (v := .pointer (some ⟨q, o + k, none⟩)) rfl (by kernel_rfl) (by kernel_rfl) (by kernel_rfl) (fun _ _ _ h => h) (Or.inl ⟨by rfl, fun w0 hSw => by (go_simp <;> first | (intro h; exfalso; omega) | exact (IntKind.wrap_i64 _).trans (by omega) | omega)⟩) hH ?_
  simp only [Act.put, List.setIfInBounds_toArray, List.set_cons_zero, List.set_cons_succ]
  refine wpAnyH_take (i := 6) (oi := { dst := some 29, op := Op.load 28 (Operand.tmp 28), type := 28, pos := "l16_texture.go:96", after := #[{ on := 5, ground := Ground.data }], guard := none }) (v := .slice (some ⟨g, oo, none⟩) lk rc) rfl (by kernel_rfl) (by kernel_rfl) (by kernel_rfl) (fun _ _ _ h => h) (Or.inl ⟨by rfl, fun w0 hSw => by ((have e9 := hSw.2.2); go_simp)⟩) hH ?_
  simp only [Act.put, List.setIfInBounds_toArray, List.set_cons_zero, List.set_cons_succ]
  refine wpAnyH_take (i := 7) (oi := { dst := some 30, op := Op.move (Operand.tmp 12), type := 3, pos := "l16_texture.go:96", after := #[], guard := none }) (v := .int .i64 (pt : Int)) rfl (by kernel_rfl) (by kernel_rfl) (by kernel_rfl) (fun _ _ _ h => h) (Or.inl ⟨by rfl, fun w0 hSw => by (go_simp)⟩) hH ?_
  simp only [Act.put, List.setIfInBounds_toArray, List.set_cons_zero, List.set_cons_succ]
  refine wpAnyH_take (i := 8) (oi := { dst := some 31, op := Op.move (Operand.tmp 12), type := 3, pos := "l16_texture.go:96", after := #[], guard := none }) (v := .int .i64 (pt : Int)) rfl (by kernel_rfl) (by kernel_rfl) (by kernel_rfl) (fun _ _ _ h => h) (Or.inl ⟨by rfl, fun w0 hSw => by (go_simp)⟩) hH ?_
  simp only [Act.put, List.setIfInBounds_toArray, List.set_cons_zero, List.set_cons_succ]
  refine wpAnyH_take (i := 9) (oi := { dst := some 32, op := Op.move (Operand.tmp 11), type := 3, pos := "l16_texture.go:96", after := #[], guard := none }) (v := .int .i64 (Z : Int)) rfl (by kernel_rfl) (by kernel_rfl) (by kernel_rfl) (fun _ _ _ h => h) (Or.inl ⟨by rfl, fun w0 hSw => by (go_simp)⟩) hH ?_
  simp only [Act.put, List.setIfInBounds_toArray, List.set_cons_zero, List.set_cons_succ]
  refine wpAnyH_take (i := 10) (oi := { dst := some 33, op := Op.binOp BinOp.add 3 (Operand.tmp 31) (Operand.tmp 32) 3, type := 3, pos := "l16_texture.go:96", after := #[{ on := 8, ground := Ground.data }, { on := 9, ground := Ground.data }], guard := none }) (v := .int .i64 ((pt : Int) + (Z : Int))) rfl (by kernel_rfl) (by kernel_rfl) (by kernel_rfl) (fun _ _ _ h => h) (Or.inl ⟨by rfl, fun w0 hSw => by (go_simp <;> first | (intro h; exfalso; omega) | exact (IntKind.wrap_i64 _).trans (by omega) | omega)⟩) hH ?_
  simp only [Act.put, List.setIfInBounds_toArray, List.set_cons_zero, List.set_cons_succ]
  refine wpAnyH_take (i := 11) (oi := { dst := some 34, op := Op.slice 28 (Operand.tmp 29) (some (Operand.tmp 30)) (some (Operand.tmp 33)) none, type := 28, pos := "l16_texture.go:96", after := #[{ on := 6, ground := Ground.data }, { on := 7, ground := Ground.data }, { on := 10, ground := Ground.data }], guard := none }) (v := .slice (some ⟨g, oo + pt, none⟩) Z (rc - pt)) rfl (by kernel_rfl) (by kernel_rfl) (by kernel_rfl) (fun _ _ _ h => h) (Or.inl ⟨by rfl, fun w0 hSw => by (go_simp <;> first | (intro h; exfalso; omega) | exact (IntKind.wrap_i64 _).trans (by omega) | omega)⟩) hH ?_
  simp only [Act.put, List.setIfInBounds_toArray, List.set_cons_zero, List.set_cons_succ]
  refine wpAnyH_ready (rs := [12]) (by kernel_rfl) (by simp) ?_
  refine (AllReadyH.cons (o := { dst := some 35, op := Op.call { callee := Callee.value (Operand.func 45), args := #[Operand.tmp 24, Operand.tmp 34], argTypes := #[3, 28] }, type := 25, pos := "l16_texture.go:96", after := #[{ on := 1, ground := Ground.data }, { on := 11, ground := Ground.data }], guard := none }) rfl (fun K hK => ?_) AllReadyH.nil)
  refine step_callC 45 #[.int .i64 l, .slice (some ⟨g, oo + pt, none⟩) Z (rc - pt)] (fun z v w' => z = .agg #[.int .i64 c0, .int .i64 c1, .int .i64 c2, .int .i64 c3] ∧ Below v.heap.size v w') (by rfl) (by go_simp) ((HU.out _ HBX.out).mono fun e w' ⟨h1, h2⟩ => ⟨_, h1, rfl, h2⟩) ?_
  rintro z5 w5 ⟨rfl, B5⟩
  have D5 := DX.next B5
  have B05 := HBX.out.trans (B5.mono HBX.out.size)
  have s0 := D5.c0
  have s1 := D5.c1
  have s2 := D5.c2
  have s3 := D5.c3
  have sf := D5.f
  have O6 := only_set4 w5 (w.heap.size + 1) (.int .i64 c0) (.int .i64 c1) (.int .i64 c2) (.int .i64 c3)
  have D6 := D5.put (.int .i64 c0) (.int .i64 c1) (.int .i64 c2) (.int .i64 c3)
  have B06 : Below w.heap.size w (set4 w5 (w.heap.size + 1) (.int .i64 c0) (.int .i64 c1) (.int .i64 c2) (.int .i64 c3)) := B05.trans (O6.below (by omega) B05.size)
  simp only [Act.put, List.setIfInBounds_toArray, List.set_cons_zero, List.set_cons_succ]
  refine hK.out _ _ (⟨cell_nx hH.1 B5, cell_nx hH.2.1 B5, cell_nx hH.2.2 B5⟩) (fun hH' => ?_)
  clear hK K
  replace hH := hH'
  clear hH' 
  refine wpAnyH_ready (rs := [13]) (by kernel_rfl) (by simp) ?_
  refine (AllReadyH.cons (o := { dst := none, op := Op.store 25 (Operand.tmp 10) (Operand.tmp 35), type := 0, pos := "l16_texture.go:96", after := #[{ on := 12, ground := Ground.data }, { on := 12, ground := Ground.chain }, { on := 0, ground := Ground.phase }, { on := 1, ground := Ground.phase }, { on := 2, ground := Ground.phase }, { on := 3, ground := Ground.phase }, { on := 4, ground := Ground.phase }, { on := 5, ground := Ground.phase }, { on := 6, ground := Ground.phase }, { on := 7, ground := Ground.phase }, { on := 8, ground := Ground.phase }, { on := 9, ground := Ground.phase }, { on := 10, ground := Ground.phase }, { on := 11, ground := Ground.phase }, { on := 12, ground := Ground.phase }], guard := none }) rfl (fun K hK => ?_) AllReadyH.nil)
  refine step_skip (set4 w5 (w.heap.size + 1) (.int .i64 c0) (.int .i64 c1) (.int .i64 c2) (.int .i64 c3)) (by rfl) (by unfold set4; go_simp) ?_
  refine hK.out _ _ (⟨O6.cell hH.1 (by omega), O6.cell hH.2.1 (by omega), O6.cell hH.2.2 (by omega)⟩) (fun hH' => ?_)
  clear hK K
  replace hH := hH'
  clear hH' 
  refine wpAnyH_done (by kernel_rfl) ?_ _
  clear s0 s1 s2 s3 sf D5 B5 B05 O6 DX hH
  go_wp2
  generalize set4 w5 (w.heap.size + 1) (.int .i64 c0) (.int .i64 c1) (.int .i64 c2) (.int .i64 c3) = V at D6 B06 ⊢
  have r0 := D6.c0
  have r1 := D6.c1
  have r2 := D6.c2
  have r3 := D6.c3
  exact bodyPost_ret (v := .agg #[.int .i64 c0, .int .i64 c1, .int .i64 c2, .int .i64 c3]) (by simp [results, Try.results55, go_sem, r0, r1, r2, r3]) rfl ⟨rfl, B06⟩
set_option maxRecDepth 100000 in
set_option maxHeartbeats 2000000 in
theorem pat (l : Int) (v : Value) (L : List Int) (pt : Nat) (A H px py : Int) (w : World) (R : BRow w v L) (hf : l = 1 ∨ l = 2 ∨ l = 3) (bf : ∀ j, j < L.length → 0 ≤ L.getD j 0 ∧ L.getD j 0 ≤ 255) (ha : pt + szF l ≤ L.length) (hat : (py * A + px) * (szF l : Int) = pt) (b1 : 0 ≤ py * A) (b2 : py * A ≤ 256) (b3 : 0 ≤ px) (b4 : px ≤ 16) (b5 : pt ≤ 4096) (hlk : L.length ≤ 1048576) :
    Calls Try.prog 83 #[.agg #[.int .i64 A, .int .i64 H, fmV l, v], .int .i64 px, .int .i64 py] w fun e w' => e = .returned (.agg #[.int .i64 (u0 l (cAt L pt)), .int .i64 (u1 l (cAt L pt)), .int .i64 (u2 l (cAt L pt)), .int .i64 (u3 l (cAt L pt))]) ∧ Below w.heap.size w w' := by
  have hz : 1 ≤ szF l ∧ szF l ≤ 4 := by rcases hf with rfl | rfl | rfl <;> decide
  obtain ⟨ra, rc, rfl, _⟩ := id R
  obtain ⟨g, oo, rfl, hg, hcap, X⟩ := R.cut hz.1 ha bf
  clear R bf
  obtain ⟨yA, hyA⟩ : ∃ yA, py * A = yA := ⟨_, rfl⟩
  rw [hyA] at hat b1 b2
  have e1 : IntKind.i64.wrap (py * A) = yA := by rw [hyA]; exact (IntKind.wrap_i64 _).trans (by omega)
  clear hyA
  rcases hf with rfl | rfl | rfl
  · have hm : ∀ w : World, (method 233 98 (Value.agg #[]) "loop.example/g00053/impl.size").run Try.prog w = .ok (106, .agg #[]) w := fun w => by kernel_rfl
    have HU : Hid (∀ w', Below w.heap.size w w' → Calls Try.prog 46 #[.iface 98 (.agg #[]), .slice (some ⟨g, oo + pt, none⟩) 1 (rc - pt)] w' fun e w'' => e = .returned (.agg #[.int .i64 (u0 1 (cAt L pt)), .int .i64 (u1 1 (cAt L pt)), .int .i64 (u2 1 (cAt L pt)), .int .i64 (u3 1 (cAt L pt))]) ∧ Below w'.heap.size w' w'') := fun w' b => unp46 1 _ _ w' (by decide) (X.next b)
    generalize u0 1 (cAt L pt) = c0 at HU ⊢
    generalize u1 1 (cAt L pt) = c1 at HU ⊢
    generalize u2 1 (cAt L pt) = c2 at HU ⊢
    generalize u3 1 (cAt L pt) = c3 at HU ⊢
    rw [show szF 1 = 1 from rfl] at ha hat hz
    rw [show fmV 1 = .iface 98 (.agg #[]) from rfl]
    clear X
    generalize L.length = lk at *
    have e2 : IntKind.i64.wrap (yA + px) = (pt : Int) := by rw [show yA + px = (pt : Int) by omega]; exact (IntKind.wrap_i64 _).trans (by omega)
    have hx1 : (yA + px) * 1 = (pt : Int) := hat
    have HBX : Hid (∀ w', Below ((w.alloc (.cells #[.int .i64 A, .int .i64 H, .iface 98 (.agg #[]), .slice (some ⟨g, oo, none⟩) lk rc] 81)).alloc (.cells #[.int .i64 0, .int .i64 0, .int .i64 0, .int .i64 0] 25)).heap.size ((w.alloc (.cells #[.int .i64 A, .int .i64 H, .iface 98 (.agg #[]), .slice (some ⟨g, oo, none⟩) lk rc] 81)).alloc (.cells #[.int .i64 0, .int .i64 0, .int .i64 0, .int .i64 0] 25)) w' → Below w.heap.size w w' ∧ C4 w' (w.heap.size + 1) (.int .i64 0) (.int .i64 0) (.int .i64 0) (.int .i64 0) ∧ C4 w' w.heap.size (.int .i64 A) (.int .i64 H) (.iface 98 (.agg #[])) (.slice (some ⟨g, oo, none⟩) lk rc)) := fun w' b => ⟨(b2_ (o1 := (.cells #[.int .i64 A, .int .i64 H, .iface 98 (.agg #[]), .slice (some ⟨g, oo, none⟩) lk rc] 81)) (o2 := .cells #[.int .i64 0, .int .i64 0, .int .i64 0, .int .i64 0] 25)).trans (b.mono (b2_ (o1 := (.cells #[.int .i64 A, .int .i64 H, .iface 98 (.agg #[]), .slice (some ⟨g, oo, none⟩) lk rc] 81)) (o2 := .cells #[.int .i64 0, .int .i64 0, .int .i64 0, .int .i64 0] 25)).size), by
      have h := (C4.new (w.alloc (.cells #[.int .i64 A, .int .i64 H, .iface 98 (.agg #[]), .slice (some ⟨g, oo, none⟩) lk rc] 81)) 25 (.int .i64 0) (.int .i64 0) (.int .i64 0) (.int .i64 0)).next b
      rwa [World.size_alloc] at h, ((C4.new w 81 (.int .i64 A) (.int .i64 H) (.iface 98 (.agg #[])) (.slice (some ⟨g, oo, none⟩) lk rc)).next (alloc_b (o := .cells #[.int .i64 0, .int .i64 0, .int .i64 0, .int .i64 0] 25))).next b⟩
    have j0 : (0 : Int) ≤ (pt : Int) := by omega
    have j1 : (pt : Int) ≤ (pt : Int) + 1 := by omega
    have j2 : (pt : Int) + 1 ≤ (rc : Int) := by omega
    have j3 : ((pt : Int) + 1).toNat - pt = 1 := by omega
    have HQ := Hid.mk hat
    clear hat hx1
    go_enter Try.func83, Try.ntmps83
    go_wp2_with (go_at_call 106; refine (size_g _).mono ?_; rintro e w2 ⟨rfl, B2⟩; (obtain ⟨BX, DX, TX⟩ := HBX.out w2 B2); (have t0 := TX.c0))
    generalize hWW : w2.drew = WX
    have HBX := Hid.mk (below_drew BX)
    have DX := DX.next (below_drew (Below.refl _ _))
    have SX := And.intro TX.c2 TX.c3
    clear TX t0 BX B2
    rw [hWW] at HBX DX
    refine wp_region_held_drew (S := fun v => v.cell? ⟨w.heap.size, 2, none⟩ = some (.iface 98 (.agg #[])) ∧ v.cell? ⟨w.heap.size, 3, none⟩ = some (.slice (some ⟨g, oo, none⟩) lk rc)) (by kernel_rfl) SX (fun hH => ?_)
    rw [hWW] at hH ⊢
    clear hWW SX
    refine wpAnyH_take (i := 0) (oi := { dst := some 20, op := Op.fieldAddr 81 (Operand.tmp 3) 2, type := 0, pos := "l16_texture.go:289", after := #[], guard := none }) (v := .pointer (some ⟨w.heap.size, 2, none⟩)) rfl (by kernel_rfl) (by kernel_rfl) (by kernel_rfl) (fun _ _ _ h => h) (Or.inl ⟨by rfl, fun w0 hSw => by (go_simp)⟩) hH ?_
    simp only [Act.put, List.setIfInBounds_toArray, List.set_cons_zero, List.set_cons_succ]
    refine wpAnyH_take (i := 1) (oi := { dst := some 21, op := Op.load 62 (Operand.tmp 20), type := 62, pos := "l16_texture.go:289", after := #[{ on := 0, ground := Ground.data }], guard := none }) (v := .iface 98 (.agg #[])) rfl (by kernel_rfl) (by kernel_rfl) (by kernel_rfl) (fun _ _ _ h => h) (Or.inl ⟨by rfl, fun w0 hSw => by ((have e9 := hSw.1); go_simp)⟩) hH ?_
    simp only [Act.put, List.setIfInBounds_toArray, List.set_cons_zero, List.set_cons_succ]
    refine wpAnyH_take (i := 2) (oi := { dst := some 22, op := Op.fieldAddr 81 (Operand.tmp 3) 3, type := 0, pos := "l16_texture.go:289", after := #[], guard := none }) (v := .pointer (some ⟨w.heap.size, 3, none⟩)) rfl (by kernel_rfl) (by kernel_rfl) (by kernel_rfl) (fun _ _ _ h => h) (Or.inl ⟨by rfl, fun w0 hSw => by (go_simp)⟩) hH ?_
    simp only [Act.put, List.setIfInBounds_toArray, List.set_cons_zero, List.set_cons_succ]
    refine wpAnyH_take (i := 3) (oi := { dst := some 23, op := Op.load 28 (Operand.tmp 22), type := 28, pos := "l16_texture.go:289", after := #[{ on := 2, ground := Ground.data }], guard := none }) (v := .slice (some ⟨g, oo, none⟩) lk rc) rfl (by kernel_rfl) (by kernel_rfl) (by kernel_rfl) (fun _ _ _ h => h) (Or.inl ⟨by rfl, fun w0 hSw => by ((have e9 := hSw.2); go_simp)⟩) hH ?_
    simp only [Act.put, List.setIfInBounds_toArray, List.set_cons_zero, List.set_cons_succ]
    refine wpAnyH_take (i := 4) (oi := { dst := some 24, op := Op.move (Operand.tmp 8), type := 3, pos := "l16_texture.go:289", after := #[], guard := none }) (v := .int .i64 (pt : Int)) rfl (by kernel_rfl) (by kernel_rfl) (by kernel_rfl) (fun _ _ _ h => h) (Or.inl ⟨by rfl, fun w0 hSw => by (go_simp)⟩) hH ?_
    simp only [Act.put, List.setIfInBounds_toArray, List.set_cons_zero, List.set_cons_succ]
    refine wpAnyH_take (i := 5) (oi := { dst := some 25, op := Op.move (Operand.tmp 8), type := 3, pos := "l16_texture.go:289", after := #[], guard := none }) (v := .int .i64 (pt : Int)) rfl (by kernel_rfl) (by kernel_rfl) (by kernel_rfl) (fun _ _ _ h => h) (Or.inl ⟨by rfl, fun w0 hSw => by (go_simp)⟩) hH ?_
    simp only [Act.put, List.setIfInBounds_toArray, List.set_cons_zero, List.set_cons_succ]
    refine wpAnyH_take (i := 6) (oi := { dst := some 26, op := Op.move (Operand.tmp 7), type := 3, pos := "l16_texture.go:289", after := #[], guard := none }) (v := .int .i64 1) rfl (by kernel_rfl) (by kernel_rfl) (by kernel_rfl) (fun _ _ _ h => h) (Or.inl ⟨by rfl, fun w0 hSw => by (go_simp)⟩) hH ?_
    simp only [Act.put, List.setIfInBounds_toArray, List.set_cons_zero, List.set_cons_succ]
    refine wpAnyH_take (i := 7) (oi := { dst := some 27, op := Op.binOp BinOp.add 3 (Operand.tmp 25) (Operand.tmp 26) 3, type := 3, pos := "l16_texture.go:289", after := #[{ on := 5, ground := Ground.data }, { on := 6, ground := Ground.data }], guard := none }) (v := .int .i64 ((pt : Int) + 1)) rfl (by kernel_rfl) (by kernel_rfl) (by kernel_rfl) (fun _ _ _ h => h) (Or.inl ⟨by rfl, fun w0 hSw => by (go_simp <;> first | (intro h; exfalso; omega) | exact (IntKind.wrap_i64 _).trans (by omega) | omega)⟩) hH ?_
    simp only [Act.put, List.setIfInBounds_toArray, List.set_cons_zero, List.set_cons_succ]
    refine wpAnyH_take (i := 8) (oi := { dst := some 28, op := Op.slice 28 (Operand.tmp 23) (some (Operand.tmp 24)) (some (Operand.tmp 27)) none, type := 28, pos := "l16_texture.go:289", after := #[{ on := 3, ground := Ground.data }, { on := 4, ground := Ground.data }, { on := 7, ground := Ground.data }], guard := none }) (v := .slice (some ⟨g, oo + pt, none⟩) 1 (rc - pt)) rfl (by kernel_rfl) (by kernel_rfl) (by kernel_rfl) (fun _ _ _ h => h) (Or.inl ⟨by rfl, fun w0 hSw => by (go_simp <;> first | (intro h; exfalso; omega) | exact (IntKind.wrap_i64 _).trans (by omega) | omega)⟩) hH ?_
    simp only [Act.put, List.setIfInBounds_toArray, List.set_cons_zero, List.set_cons_succ]
    refine wpAnyH_ready (rs := [9]) (by kernel_rfl) (by simp) ?_
    refine (AllReadyH.cons (o := { dst := some 29, op := Op.call { callee := Callee.value (Operand.func 46), args := #[Operand.tmp 21, Operand.tmp 28], argTypes := #[62, 28] }, type := 25, pos := "l16_texture.go:289", after := #[{ on := 1, ground := Ground.data }, { on := 8, ground := Ground.data }], guard := none }) rfl (fun K hK => ?_) AllReadyH.nil)
    refine step_callC 46 #[.iface 98 (.agg #[]), .slice (some ⟨g, oo + pt, none⟩) 1 (rc - pt)] (fun z v w' => z = .agg #[.int .i64 c0, .int .i64 c1, .int .i64 c2, .int .i64 c3] ∧ Below v.heap.size v w') (by rfl) (by go_simp) ((HU.out _ HBX.out).mono fun e w' ⟨h1, h2⟩ => ⟨_, h1, rfl, h2⟩) ?_
    rintro z5 w5 ⟨rfl, B5⟩
    have D5 := DX.next B5
    have B05 := HBX.out.trans (B5.mono HBX.out.size)
    have s0 := D5.c0
    have s1 := D5.c1
    have s2 := D5.c2
    have s3 := D5.c3
    have sf := D5.f
    have O6 := only_set4 w5 (w.heap.size + 1) (.int .i64 c0) (.int .i64 c1) (.int .i64 c2) (.int .i64 c3)
    have D6 := D5.put (.int .i64 c0) (.int .i64 c1) (.int .i64 c2) (.int .i64 c3)
    have B06 : Below w.heap.size w (set4 w5 (w.heap.size + 1) (.int .i64 c0) (.int .i64 c1) (.int .i64 c2) (.int .i64 c3)) := B05.trans (O6.below (by omega) B05.size)
    simp only [Act.put, List.setIfInBounds_toArray, List.set_cons_zero, List.set_cons_succ]
    refine hK.out _ _ (⟨cell_nx hH.1 B5, cell_nx hH.2 B5⟩) (fun hH' => ?_)
    clear hK K
    replace hH := hH'
    clear hH' 
    refine wpAnyH_ready (rs := [10]) (by kernel_rfl) (by simp) ?_
    refine (AllReadyH.cons (o := { dst := none, op := Op.store 25 (Operand.tmp 6) (Operand.tmp 29), type := 0, pos := "l16_texture.go:289", after := #[{ on := 9, ground := Ground.data }, { on := 9, ground := Ground.chain }, { on := 0, ground := Ground.phase }, { on := 1, ground := Ground.phase }, { on := 2, ground := Ground.phase }, { on := 3, ground := Ground.phase }, { on := 4, ground := Ground.phase }, { on := 5, ground := Ground.phase }, { on := 6, ground := Ground.phase }, { on := 7, ground := Ground.phase }, { on := 8, ground := Ground.phase }, { on := 9, ground := Ground.phase }], guard := none }) rfl (fun K hK => ?_) AllReadyH.nil)
    refine step_skip (set4 w5 (w.heap.size + 1) (.int .i64 c0) (.int .i64 c1) (.int .i64 c2) (.int .i64 c3)) (by rfl) (by unfold set4; go_simp) ?_
    refine hK.out _ _ (⟨O6.cell hH.1 (by omega), O6.cell hH.2 (by omega)⟩) (fun hH' => ?_)
    clear hK K
    replace hH := hH'
    clear hH' 
    refine wpAnyH_done (by kernel_rfl) ?_ _
    clear s0 s1 s2 s3 sf D5 B5 B05 O6 DX hH
    go_wp2
    generalize set4 w5 (w.heap.size + 1) (.int .i64 c0) (.int .i64 c1) (.int .i64 c2) (.int .i64 c3) = V at D6 B06 ⊢
    have r0 := D6.c0
    have r1 := D6.c1
    have r2 := D6.c2
    have r3 := D6.c3
    exact bodyPost_ret (v := .agg #[.int .i64 c0, .int .i64 c1, .int .i64 c2, .int .i64 c3]) (by simp [results, Try.results83, go_sem, r0, r1, r2, r3]) rfl ⟨rfl, B06⟩
  · have hm : ∀ w : World, (method 233 99 (Value.agg #[]) "loop.example/g00053/impl.size").run Try.prog w = .ok (110, .agg #[]) w := fun w => by kernel_rfl
    have HU : Hid (∀ w', Below w.heap.size w w' → Calls Try.prog 46 #[.iface 99 (.agg #[]), .slice (some ⟨g, oo + pt, none⟩) 4 (rc - pt)] w' fun e w'' => e = .returned (.agg #[.int .i64 (u0 2 (cAt L pt)), .int .i64 (u1 2 (cAt L pt)), .int .i64 (u2 2 (cAt L pt)), .int .i64 (u3 2 (cAt L pt))]) ∧ Below w'.heap.size w' w'') := fun w' b => unp46 2 _ _ w' (by decide) (X.next b)
    generalize u0 2 (cAt L pt) = c0 at HU ⊢
    generalize u1 2 (cAt L pt) = c1 at HU ⊢
    generalize u2 2 (cAt L pt) = c2 at HU ⊢
    generalize u3 2 (cAt L pt) = c3 at HU ⊢
    rw [show szF 2 = 4 from rfl] at ha hat hz
    rw [show fmV 2 = .iface 99 (.agg #[]) from rfl]
    clear X
    generalize L.length = lk at *
    have e2 : IntKind.i64.wrap ((yA + px) * 4) = (pt : Int) := by rw [show (yA + px) * 4 = (pt : Int) by omega]; exact (IntKind.wrap_i64 _).trans (by omega)
    have hx1 : (yA + px) * 4 = (pt : Int) := hat
    have HBX : Hid (∀ w', Below ((w.alloc (.cells #[.int .i64 A, .int .i64 H, .iface 99 (.agg #[]), .slice (some ⟨g, oo, none⟩) lk rc] 81)).alloc (.cells #[.int .i64 0, .int .i64 0, .int .i64 0, .int .i64 0] 25)).heap.size ((w.alloc (.cells #[.int .i64 A, .int .i64 H, .iface 99 (.agg #[]), .slice (some ⟨g, oo, none⟩) lk rc] 81)).alloc (.cells #[.int .i64 0, .int .i64 0, .int .i64 0, .int .i64 0] 25)) w' → Below w.heap.size w w' ∧ C4 w' (w.heap.size + 1) (.int .i64 0) (.int .i64 0) (.int .i64 0) (.int .i64 0) ∧ C4 w' w.heap.size (.int .i64 A) (.int .i64 H) (.iface 99 (.agg #[])) (.slice (some ⟨g, oo, none⟩) lk rc)) := fun w' b => ⟨(b2_ (o1 := (.cells #[.int .i64 A, .int .i64 H, .iface 99 (.agg #[]), .slice (some ⟨g, oo, none⟩) lk rc] 81)) (o2 := .cells #[.int .i64 0, .int .i64 0, .int .i64 0, .int .i64 0] 25)).trans (b.mono (b2_ (o1 := (.cells #[.int .i64 A, .int .i64 H, .iface 99 (.agg #[]), .slice (some ⟨g, oo, none⟩) lk rc] 81)) (o2 := .cells #[.int .i64 0, .int .i64 0, .int .i64 0, .int .i64 0] 25)).size), by
      have h := (C4.new (w.alloc (.cells #[.int .i64 A, .int .i64 H, .iface 99 (.agg #[]), .slice (some ⟨g, oo, none⟩) lk rc] 81)) 25 (.int .i64 0) (.int .i64 0) (.int .i64 0) (.int .i64 0)).next b
      rwa [World.size_alloc] at h, ((C4.new w 81 (.int .i64 A) (.int .i64 H) (.iface 99 (.agg #[])) (.slice (some ⟨g, oo, none⟩) lk rc)).next (alloc_b (o := .cells #[.int .i64 0, .int .i64 0, .int .i64 0, .int .i64 0] 25))).next b⟩
    have j0 : (0 : Int) ≤ (pt : Int) := by omega
    have j1 : (pt : Int) ≤ (pt : Int) + 4 := by omega
    have j2 : (pt : Int) + 4 ≤ (rc : Int) := by omega
    have j3 : ((pt : Int) + 4).toNat - pt = 4 := by omega
    have HQ := Hid.mk hat
    clear hat hx1
    go_enter Try.func83, Try.ntmps83
    go_wp2_with (go_at_call 110; refine (size_f _).mono ?_; rintro e w2 ⟨rfl, B2⟩; (obtain ⟨BX, DX, TX⟩ := HBX.out w2 B2); (have t0 := TX.c0))
    generalize hWW : w2.drew = WX
    have HBX := Hid.mk (below_drew BX)
    have DX := DX.next (below_drew (Below.refl _ _))
    have SX := And.intro TX.c2 TX.c3
    clear TX t0 BX B2
    rw [hWW] at HBX DX
    refine wp_region_held_drew (S := fun v => v.cell? ⟨w.heap.size, 2, none⟩ = some (.iface 99 (.agg #[])) ∧ v.cell? ⟨w.heap.size, 3, none⟩ = some (.slice (some ⟨g, oo, none⟩) lk rc)) (by kernel_rfl) SX (fun hH => ?_)
    rw [hWW] at hH ⊢
    clear hWW SX
    refine wpAnyH_take (i := 0) (oi := { dst := some 20, op := Op.fieldAddr 81 (Operand.tmp 3) 2, type := 0, pos := "l16_texture.go:289", after := #[], guard := none }) (v := .pointer (some ⟨w.heap.size, 2, none⟩)) rfl (by kernel_rfl) (by kernel_rfl) (by kernel_rfl) (fun _ _ _ h => h) (Or.inl ⟨by rfl, fun w0 hSw => by (go_simp)⟩) hH ?_
    simp only [Act.put, List.setIfInBounds_toArray, List.set_cons_zero, List.set_cons_succ]
    refine wpAnyH_take (i := 1) (oi := { dst := some 21, op := Op.load 62 (Operand.tmp 20), type := 62, pos := "l16_texture.go:289", after := #[{ on := 0, ground := Ground.data }], guard := none }) (v := .iface 99 (.agg #[])) rfl (by kernel_rfl) (by kernel_rfl) (by kernel_rfl) (fun _ _ _ h => h) (Or.inl ⟨by rfl, fun w0 hSw => by ((have e9 := hSw.1); go_simp)⟩) hH ?_
    simp only [Act.put, List.setIfInBounds_toArray, List.set_cons_zero, List.set_cons_succ]
    refine wpAnyH_take (i := 2) (oi := { dst := some 22, op := Op.fieldAddr 81 (Operand.tmp 3) 3, type := 0, pos := "l16_texture.go:289", after := #[], guard := none }) (v := .pointer (some ⟨w.heap.size, 3, none⟩)) rfl (by kernel_rfl) (by kernel_rfl) (by kernel_rfl) (fun _ _ _ h => h) (Or.inl ⟨by rfl, fun w0 hSw => by (go_simp)⟩) hH ?_
    simp only [Act.put, List.setIfInBounds_toArray, List.set_cons_zero, List.set_cons_succ]
    refine wpAnyH_take (i := 3) (oi := { dst := some 23, op := Op.load 28 (Operand.tmp 22), type := 28, pos := "l16_texture.go:289", after := #[{ on := 2, ground := Ground.data }], guard := none }) (v := .slice (some ⟨g, oo, none⟩) lk rc) rfl (by kernel_rfl) (by kernel_rfl) (by kernel_rfl) (fun _ _ _ h => h) (Or.inl ⟨by rfl, fun w0 hSw => by ((have e9 := hSw.2); go_simp)⟩) hH ?_
    simp only [Act.put, List.setIfInBounds_toArray, List.set_cons_zero, List.set_cons_succ]
    refine wpAnyH_take (i := 4) (oi := { dst := some 24, op := Op.move (Operand.tmp 8), type := 3, pos := "l16_texture.go:289", after := #[], guard := none }) (v := .int .i64 (pt : Int)) rfl (by kernel_rfl) (by kernel_rfl) (by kernel_rfl) (fun _ _ _ h => h) (Or.inl ⟨by rfl, fun w0 hSw => by (go_simp)⟩) hH ?_
    simp only [Act.put, List.setIfInBounds_toArray, List.set_cons_zero, List.set_cons_succ]
    refine wpAnyH_take (i := 5) (oi := { dst := some 25, op := Op.move (Operand.tmp 8), type := 3, pos := "l16_texture.go:289", after := #[], guard := none }) (v := .int .i64 (pt : Int)) rfl (by kernel_rfl) (by kernel_rfl) (by kernel_rfl) (fun _ _ _ h => h) (Or.inl ⟨by rfl, fun w0 hSw => by (go_simp)⟩) hH ?_
    simp only [Act.put, List.setIfInBounds_toArray, List.set_cons_zero, List.set_cons_succ]
    refine wpAnyH_take (i := 6) (oi := { dst := some 26, op := Op.move (Operand.tmp 7), type := 3, pos := "l16_texture.go:289", after := #[], guard := none }) (v := .int .i64 4) rfl (by kernel_rfl) (by kernel_rfl) (by kernel_rfl) (fun _ _ _ h => h) (Or.inl ⟨by rfl, fun w0 hSw => by (go_simp)⟩) hH ?_
    simp only [Act.put, List.setIfInBounds_toArray, List.set_cons_zero, List.set_cons_succ]
    refine wpAnyH_take (i := 7) (oi := { dst := some 27, op := Op.binOp BinOp.add 3 (Operand.tmp 25) (Operand.tmp 26) 3, type := 3, pos := "l16_texture.go:289", after := #[{ on := 5, ground := Ground.data }, { on := 6, ground := Ground.data }], guard := none }) (v := .int .i64 ((pt : Int) + 4)) rfl (by kernel_rfl) (by kernel_rfl) (by kernel_rfl) (fun _ _ _ h => h) (Or.inl ⟨by rfl, fun w0 hSw => by (go_simp <;> first | (intro h; exfalso; omega) | exact (IntKind.wrap_i64 _).trans (by omega) | omega)⟩) hH ?_
    simp only [Act.put, List.setIfInBounds_toArray, List.set_cons_zero, List.set_cons_succ]
    refine wpAnyH_take (i := 8) (oi := { dst := some 28, op := Op.slice 28 (Operand.tmp 23) (some (Operand.tmp 24)) (some (Operand.tmp 27)) none, type := 28, pos := "l16_texture.go:289", after := #[{ on := 3, ground := Ground.data }, { on := 4, ground := Ground.data }, { on := 7, ground := Ground.data }], guard := none }) (v := .slice (some ⟨g, oo + pt, none⟩) 4 (rc - pt)) rfl (by kernel_rfl) (by kernel_rfl) (by kernel_rfl) (fun _ _ _ h => h) (Or.inl ⟨by rfl, fun w0 hSw => by (go_simp <;> first | (intro h; exfalso; omega) | exact (IntKind.wrap_i64 _).trans (by omega) | omega)⟩) hH ?_
    simp only [Act.put, List.setIfInBounds_toArray, List.set_cons_zero, List.set_cons_succ]
    refine wpAnyH_ready (rs := [9]) (by kernel_rfl) (by simp) ?_
    refine (AllReadyH.cons (o := { dst := some 29, op := Op.call { callee := Callee.value (Operand.func 46), args := #[Operand.tmp 21, Operand.tmp 28], argTypes := #[62, 28] }, type := 25, pos := "l16_texture.go:289", after := #[{ on := 1, ground := Ground.data }, { on := 8, ground := Ground.data }], guard := none }) rfl (fun K hK => ?_) AllReadyH.nil)
    refine step_callC 46 #[.iface 99 (.agg #[]), .slice (some ⟨g, oo + pt, none⟩) 4 (rc - pt)] (fun z v w' => z = .agg #[.int .i64 c0, .int .i64 c1, .int .i64 c2, .int .i64 c3] ∧ Below v.heap.size v w') (by rfl) (by go_simp) ((HU.out _ HBX.out).mono fun e w' ⟨h1, h2⟩ => ⟨_, h1, rfl, h2⟩) ?_
    rintro z5 w5 ⟨rfl, B5⟩
    have D5 := DX.next B5
    have B05 := HBX.out.trans (B5.mono HBX.out.size)
    have s0 := D5.c0
    have s1 := D5.c1
    have s2 := D5.c2
    have s3 := D5.c3
    have sf := D5.f
    have O6 := only_set4 w5 (w.heap.size + 1) (.int .i64 c0) (.int .i64 c1) (.int .i64 c2) (.int .i64 c3)
    have D6 := D5.put (.int .i64 c0) (.int .i64 c1) (.int .i64 c2) (.int .i64 c3)
    have B06 : Below w.heap.size w (set4 w5 (w.heap.size + 1) (.int .i64 c0) (.int .i64 c1) (.int .i64 c2) (.int .i64 c3)) := B05.trans (O6.below (by omega) B05.size)
    simp only [Act.put, List.setIfInBounds_toArray, List.set_cons_zero, List.set_cons_succ]
    refine hK.out _ _ (⟨cell_nx hH.1 B5, cell_nx hH.2 B5⟩) (fun hH' => ?_)
    clear hK K
    replace hH := hH'
    clear hH' 
    refine wpAnyH_ready (rs := [10]) (by kernel_rfl) (by simp) ?_
    refine (AllReadyH.cons (o := { dst := none, op := Op.store 25 (Operand.tmp 6) (Operand.tmp 29), type := 0, pos := "l16_texture.go:289", after := #[{ on := 9, ground := Ground.data }, { on := 9, ground := Ground.chain }, { on := 0, ground := Ground.phase }, { on := 1, ground := Ground.phase }, { on := 2, ground := Ground.phase }, { on := 3, ground := Ground.phase }, { on := 4, ground := Ground.phase }, { on := 5, ground := Ground.phase }, { on := 6, ground := Ground.phase }, { on := 7, ground := Ground.phase }, { on := 8, ground := Ground.phase }, { on := 9, ground := Ground.phase }], guard := none }) rfl (fun K hK => ?_) AllReadyH.nil)
    refine step_skip (set4 w5 (w.heap.size + 1) (.int .i64 c0) (.int .i64 c1) (.int .i64 c2) (.int .i64 c3)) (by rfl) (by unfold set4; go_simp) ?_
    refine hK.out _ _ (⟨O6.cell hH.1 (by omega), O6.cell hH.2 (by omega)⟩) (fun hH' => ?_)
    clear hK K
    replace hH := hH'
    clear hH' 
    refine wpAnyH_done (by kernel_rfl) ?_ _
    clear s0 s1 s2 s3 sf D5 B5 B05 O6 DX hH
    go_wp2
    generalize set4 w5 (w.heap.size + 1) (.int .i64 c0) (.int .i64 c1) (.int .i64 c2) (.int .i64 c3) = V at D6 B06 ⊢
    have r0 := D6.c0
    have r1 := D6.c1
    have r2 := D6.c2
    have r3 := D6.c3
    exact bodyPost_ret (v := .agg #[.int .i64 c0, .int .i64 c1, .int .i64 c2, .int .i64 c3]) (by simp [results, Try.results83, go_sem, r0, r1, r2, r3]) rfl ⟨rfl, B06⟩
  · have hm : ∀ w : World, (method 233 100 (Value.agg #[]) "loop.example/g00053/impl.size").run Try.prog w = .ok (113, .agg #[]) w := fun w => by kernel_rfl
    have HU : Hid (∀ w', Below w.heap.size w w' → Calls Try.prog 46 #[.iface 100 (.agg #[]), .slice (some ⟨g, oo + pt, none⟩) 2 (rc - pt)] w' fun e w'' => e = .returned (.agg #[.int .i64 (u0 3 (cAt L pt)), .int .i64 (u1 3 (cAt L pt)), .int .i64 (u2 3 (cAt L pt)), .int .i64 (u3 3 (cAt L pt))]) ∧ Below w'.heap.size w' w'') := fun w' b => unp46 3 _ _ w' (by decide) (X.next b)
    generalize u0 3 (cAt L pt) = c0 at HU ⊢
    generalize u1 3 (cAt L pt) = c1 at HU ⊢
    generalize u2 3 (cAt L pt) = c2 at HU ⊢
    generalize u3 3 (cAt L pt) = c3 at HU ⊢
    rw [show szF 3 = 2 from rfl] at ha hat hz
    rw [show fmV 3 = .iface 100 (.agg #[]) from rfl]
    clear X
    generalize L.length = lk at *
    have e2 : IntKind.i64.wrap ((yA + px) * 2) = (pt : Int) := by rw [show (yA + px) * 2 = (pt : Int) by omega]; exact (IntKind.wrap_i64 _).trans (by omega)
    have hx1 : (yA + px) * 2 = (pt : Int) := hat
    have HBX : Hid (∀ w', Below ((w.alloc (.cells #[.int .i64 A, .int .i64 H, .iface 100 (.agg #[]), .slice (some ⟨g, oo, none⟩) lk rc] 81)).alloc (.cells #[.int .i64 0, .int .i64 0, .int .i64 0, .int .i64 0] 25)).heap.size ((w.alloc (.cells #[.int .i64 A, .int .i64 H, .iface 100 (.agg #[]), .slice (some ⟨g, oo, none⟩) lk rc] 81)).alloc (.cells #[.int .i64 0, .int .i64 0, .int .i64 0, .int .i64 0] 25)) w' → Below w.heap.size w w' ∧ C4 w' (w.heap.size + 1) (.int .i64 0) (.int .i64 0) (.int .i64 0) (.int .i64 0) ∧ C4 w' w.heap.size (.int .i64 A) (.int .i64 H) (.iface 100 (.agg #[])) (.slice (some ⟨g, oo, none⟩) lk rc)) := fun w' b => ⟨(b2_ (o1 := (.cells #[.int .i64 A, .int .i64 H, .iface 100 (.agg #[]), .slice (some ⟨g, oo, none⟩) lk rc] 81)) (o2 := .cells #[.int .i64 0, .int .i64 0, .int .i64 0, .int .i64 0] 25)).trans (b.mono (b2_ (o1 := (.cells #[.int .i64 A, .int .i64 H, .iface 100 (.agg #[]), .slice (some ⟨g, oo, none⟩) lk rc] 81)) (o2 := .cells #[.int .i64 0, .int .i64 0, .int .i64 0, .int .i64 0] 25)).size), by
      have h := (C4.new (w.alloc (.cells #[.int .i64 A, .int .i64 H, .iface 100 (.agg #[]), .slice (some ⟨g, oo, none⟩) lk rc] 81)) 25 (.int .i64 0) (.int .i64 0) (.int .i64 0) (.int .i64 0)).next b
      rwa [World.size_alloc] at h, ((C4.new w 81 (.int .i64 A) (.int .i64 H) (.iface 100 (.agg #[])) (.slice (some ⟨g, oo, none⟩) lk rc)).next (alloc_b (o := .cells #[.int .i64 0, .int .i64 0, .int .i64 0, .int .i64 0] 25))).next b⟩
    have j0 : (0 : Int) ≤ (pt : Int) := by omega
    have j1 : (pt : Int) ≤ (pt : Int) + 2 := by omega
    have j2 : (pt : Int) + 2 ≤ (rc : Int) := by omega
    have j3 : ((pt : Int) + 2).toNat - pt = 2 := by omega
    have HQ := Hid.mk hat
    clear hat hx1
    go_enter Try.func83, Try.ntmps83
    go_wp2_with (go_at_call 113; refine (size_s _).mono ?_; rintro e w2 ⟨rfl, B2⟩; (obtain ⟨BX, DX, TX⟩ := HBX.out w2 B2); (have t0 := TX.c0))
    generalize hWW : w2.drew = WX
    have HBX := Hid.mk (below_drew BX)
    have DX := DX.next (below_drew (Below.refl _ _))
    have SX := And.intro TX.c2 TX.c3
    clear TX t0 BX B2
    rw [hWW] at HBX DX
    refine wp_region_held_drew (S := fun v => v.cell? ⟨w.heap.size, 2, none⟩ = some (.iface 100 (.agg #[])) ∧ v.cell? ⟨w.heap.size, 3, none⟩ = some (.slice (some ⟨g, oo, none⟩) lk rc)) (by kernel_rfl) SX (fun hH => ?_)
    rw [hWW] at hH ⊢
    clear hWW SX
    refine wpAnyH_take (i := 0) (oi := { dst := some 20, op := Op.fieldAddr 81 (Operand.tmp 3) 2, type := 0, pos := "l16_texture.go:289", after := #[], guard := none }) (v := .pointer (some ⟨w.heap.size, 2, none⟩)) rfl (by kernel_rfl) (by kernel_rfl) (by kernel_rfl) (fun _ _ _ h => h) (Or.inl ⟨by rfl, fun w0 hSw => by (go_simp)⟩) hH ?_
    simp only [Act.put, List.setIfInBounds_toArray, List.set_cons_zero, List.set_cons_succ]
    refine wpAnyH_take (i := 1) (oi := { dst := some 21, op := Op.load 62 (Operand.tmp 20), type := 62, pos := "l16_texture.go:289", after := #[{ on := 0, ground := Ground.data }], guard := none }) (v := .iface 100 (.agg #[])) rfl (by kernel_rfl) (by kernel_rfl) (by kernel_rfl) (fun _ _ _ h => h) (Or.inl ⟨by rfl, fun w0 hSw => by ((have e9 := hSw.1); go_simp)⟩) hH ?_
    simp only [Act.put, List.setIfInBounds_toArray, List.set_cons_zero, List.set_cons_succ]
    refine wpAnyH_take (i := 2) (oi := { dst := some 22, op := Op.fieldAddr 81 (Operand.tmp 3) 3, type := 0, pos := "l16_texture.go:289", after := #[], guard := none }) (v := .pointer (some ⟨w.heap.size, 3, none⟩)) rfl (by kernel_rfl) (by kernel_rfl) (by kernel_rfl) (fun _ _ _ h => h) (Or.inl ⟨by rfl, fun w0 hSw => by (go_simp)⟩) hH ?_
    simp only [Act.put, List.setIfInBounds_toArray, List.set_cons_zero, List.set_cons_succ]
    refine wpAnyH_take (i := 3) (oi := { dst := some 23, op := Op.load 28 (Operand.tmp 22), type := 28, pos := "l16_texture.go:289", after := #[{ on := 2, ground := Ground.data }], guard := none }) (v := .slice (some ⟨g, oo, none⟩) lk rc) rfl (by kernel_rfl) (by kernel_rfl) (by kernel_rfl) (fun _ _ _ h => h) (Or.inl ⟨by rfl, fun w0 hSw => by ((have e9 := hSw.2); go_simp)⟩) hH ?_
    simp only [Act.put, List.setIfInBounds_toArray, List.set_cons_zero, List.set_cons_succ]
    refine wpAnyH_take (i := 4) (oi := { dst := some 24, op := Op.move (Operand.tmp 8), type := 3, pos := "l16_texture.go:289", after := #[], guard := none }) (v := .int .i64 (pt : Int)) rfl (by kernel_rfl) (by kernel_rfl) (by kernel_rfl) (fun _ _ _ h => h) (Or.inl ⟨by rfl, fun w0 hSw => by (go_simp)⟩) hH ?_
    simp only [Act.put, List.setIfInBounds_toArray, List.set_cons_zero, List.set_cons_succ]
    refine wpAnyH_take (i := 5) (oi := { dst := some 25, op := Op.move (Operand.tmp 8), type := 3, pos := "l16_texture.go:289", after := #[], guard := none }) (v := .int .i64 (pt : Int)) rfl (by kernel_rfl) (by kernel_rfl) (by kernel_rfl) (fun _ _ _ h => h) (Or.inl ⟨by rfl, fun w0 hSw => by (go_simp)⟩) hH ?_
    simp only [Act.put, List.setIfInBounds_toArray, List.set_cons_zero, List.set_cons_succ]
    refine wpAnyH_take (i := 6) (oi := { dst := some 26, op := Op.move (Operand.tmp 7), type := 3, pos := "l16_texture.go:289", after := #[], guard := none }) (v := .int .i64 2) rfl (by kernel_rfl) (by kernel_rfl) (by kernel_rfl) (fun _ _ _ h => h) (Or.inl ⟨by rfl, fun w0 hSw => by (go_simp)⟩) hH ?_
    simp only [Act.put, List.setIfInBounds_toArray, List.set_cons_zero, List.set_cons_succ]
    refine wpAnyH_take (i := 7) (oi := { dst := some 27, op := Op.binOp BinOp.add 3 (Operand.tmp 25) (Operand.tmp 26) 3, type := 3, pos := "l16_texture.go:289", after := #[{ on := 5, ground := Ground.data }, { on := 6, ground := Ground.data }], guard := none }) (v := .int .i64 ((pt : Int) + 2)) rfl (by kernel_rfl) (by kernel_rfl) (by kernel_rfl) (fun _ _ _ h => h) (Or.inl ⟨by rfl, fun w0 hSw => by (go_simp <;> first | (intro h; exfalso; omega) | exact (IntKind.wrap_i64 _).trans (by omega) | omega)⟩) hH ?_
    simp only [Act.put, List.setIfInBounds_toArray, List.set_cons_zero, List.set_cons_succ]
    refine wpAnyH_take (i := 8) (oi := { dst := some 28, op := Op.slice 28 (Operand.tmp 23) (some (Operand.tmp 24)) (some (Operand.tmp 27)) none, type := 28, pos := "l16_texture.go:289", after := #[{ on := 3, ground := Ground.data }, { on := 4, ground := Ground.data }, { on := 7, ground := Ground.data }], guard := none }) (v := .slice (some ⟨g, oo + pt, none⟩) 2 (rc - pt)) rfl (by kernel_rfl) (by kernel_rfl) (by kernel_rfl) (fun _ _ _ h => h) (Or.inl ⟨by rfl, fun w0 hSw => by (go_simp <;> first | (intro h; exfalso; omega) | exact (IntKind.wrap_i64 _).trans (by omega) | omega)⟩) hH ?_
    simp only [Act.put, List.setIfInBounds_toArray, List.set_cons_zero, List.set_cons_succ]
    refine wpAnyH_ready (rs := [9]) (by kernel_rfl) (by simp) ?_
    refine (AllReadyH.cons (o := { dst := some 29, op := Op.call { callee := Callee.value (Operand.func 46), args := #[Operand.tmp 21, Operand.tmp 28], argTypes := #[62, 28] }, type := 25, pos := "l16_texture.go:289", after := #[{ on := 1, ground := Ground.data }, { on := 8, ground := Ground.data }], guard := none }) rfl (fun K hK => ?_) AllReadyH.nil)
    refine step_callC 46 #[.iface 100 (.agg #[]), .slice (some ⟨g, oo + pt, none⟩) 2 (rc - pt)] (fun z v w' => z = .agg #[.int .i64 c0, .int .i64 c1, .int .i64 c2, .int .i64 c3] ∧ Below v.heap.size v w') (by rfl) (by go_simp) ((HU.out _ HBX.out).mono fun e w' ⟨h1, h2⟩ => ⟨_, h1, rfl, h2⟩) ?_
    rintro z5 w5 ⟨rfl, B5⟩
    have D5 := DX.next B5
    have B05 := HBX.out.trans (B5.mono HBX.out.size)
    have s0 := D5.c0
    have s1 := D5.c1
    have s2 := D5.c2
    have s3 := D5.c3
    have sf := D5.f
    have O6 := only_set4 w5 (w.heap.size + 1) (.int .i64 c0) (.int .i64 c1) (.int .i64 c2) (.int .i64 c3)
    have D6 := D5.put (.int .i64 c0) (.int .i64 c1) (.int .i64 c2) (.int .i64 c3)
    have B06 : Below w.heap.size w (set4 w5 (w.heap.size + 1) (.int .i64 c0) (.int .i64 c1) (.int .i64 c2) (.int .i64 c3)) := B05.trans (O6.below (by omega) B05.size)
    simp only [Act.put, List.setIfInBounds_toArray, List.set_cons_zero, List.set_cons_succ]
    refine hK.out _ _ (⟨cell_nx hH.1 B5, cell_nx hH.2 B5⟩) (fun hH' => ?_)
    clear hK K
    replace hH := hH'
    clear hH' 
    refine wpAnyH_ready (rs := [10]) (by kernel_rfl) (by simp) ?_
    refine (AllReadyH.cons (o := { dst := none, op := Op.store 25 (Operand.tmp 6) (Operand.tmp 29), type := 0, pos := "l16_texture.go:289", after := #[{ on := 9, ground := Ground.data }, { on := 9, ground := Ground.chain }, { on := 0, ground := Ground.phase }, { on := 1, ground := Ground.phase }, { on := 2, ground := Ground.phase }, { on := 3, ground := Ground.phase }, { on := 4, ground := Ground.phase }, { on := 5, ground := Ground.phase }, { on := 6, ground := Ground.phase }, { on := 7, ground := Ground.phase }, { on := 8, ground := Ground.phase }, { on := 9, ground := Ground.phase }], guard := none }) rfl (fun K hK => ?_) AllReadyH.nil)
    refine step_skip (set4 w5 (w.heap.size + 1) (.int .i64 c0) (.int .i64 c1) (.int .i64 c2) (.int .i64 c3)) (by rfl) (by unfold set4; go_simp) ?_
    refine hK.out _ _ (⟨O6.cell hH.1 (by omega), O6.cell hH.2 (by omega)⟩) (fun hH' => ?_)
    clear hK K
    replace hH := hH'
    clear hH' 
    refine wpAnyH_done (by kernel_rfl) ?_ _
    clear s0 s1 s2 s3 sf D5 B5 B05 O6 DX hH
    go_wp2
    generalize set4 w5 (w.heap.size + 1) (.int .i64 c0) (.int .i64 c1) (.int .i64 c2) (.int .i64 c3) = V at D6 B06 ⊢
    have r0 := D6.c0
    have r1 := D6.c1
    have r2 := D6.c2
    have r3 := D6.c3
    exact bodyPost_ret (v := .agg #[.int .i64 c0, .int .i64 c1, .int .i64 c2, .int .i64 c3]) (by simp [results, Try.results83, go_sem, r0, r1, r2, r3]) rfl ⟨rfl, B06⟩
/-- An edge that is one, with a border that may be read. -/
def egB (e r g b a : Int) : Bool := decide (1 ≤ e) && (decide (e ≤ 4) && (decide (e ≠ 4) || gdC r g b a))
theorem eg_iff {e r g b a : Int} (h : egB e r g b a = true) : 1 ≤ e ∧ e ≤ 4 := by
  unfold egB at h
  simp only [Bool.and_eq_true, decide_eq_true_eq] at h
  exact ⟨h.1, h.2.1⟩
theorem pedge (e r g b a : Int) (w : World) : Calls Try.prog 81 #[.int .i64 e, .agg #[.int .i64 r, .int .i64 g, .int .i64 b, .int .i64 a]] w fun x w' => x = .returned (.bool (egB e r g b a)) ∧ Below w.heap.size w w' := by
  have HK := keepK r g b a w
  by_cases h4 : e = 4
  · subst h4
    have HC : Hid (∀ w : World, Calls Try.prog 13 #[.agg #[.int .i64 r, .int .i64 g, .int .i64 b, .int .i64 a]] w fun x w' => x = .returned (.bool (egB 4 r g b a)) ∧ Below w.heap.size w w') := fun w => by
      have := good13 r g b a w
      exact this
    generalize egB 4 r g b a = Q at HC ⊢
    go_enter Try.func81, Try.ntmps81
    go_wp2_with (go_at_call 13; refine (HC.out _).mono ?_; rintro x w2 ⟨rfl, B2⟩; (have BN := (HK.out w2 B2).2))
    go_ret
    exact ⟨rfl, BN⟩
  · have hq : egB e r g b a = (decide (1 ≤ e) && decide (e < 4)) := by
      unfold egB
      rw [decide_eq_true (show e ≠ 4 from h4), Bool.true_or, Bool.and_true]
      congr 1
      exact decide_eq_decide.2 ⟨by omega, by omega⟩
    rw [hq]
    by_cases h1 : 1 ≤ e
    · by_cases h2 : e < 4
      · rw [decide_eq_true h1, decide_eq_true h2]
        go_enter Try.func81, Try.ntmps81
        go_wp2
        go_ret
        exact ⟨rfl, alloc_b⟩
      · rw [decide_eq_true h1, decide_eq_false h2]
        go_enter Try.func81, Try.ntmps81
        go_wp2
        go_ret
        exact ⟨rfl, alloc_b⟩
    · rw [decide_eq_false h1]
      go_enter Try.func81, Try.ntmps81
      go_wp2
      go_ret
      exact ⟨rfl, alloc_b⟩
end Go.Proofs.Ythkngcdfnemhaaa
