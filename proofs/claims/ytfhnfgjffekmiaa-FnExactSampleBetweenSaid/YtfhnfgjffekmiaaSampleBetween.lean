/- SampleBetween answers as its model at every texture, place between levels and colors, edge and border, and writes into none of them. No conditions. -/
import Derived.Test.YtfhnfgjffekmiaaRows
import Derived.Test.YtfhnfgjffekmiaaAs
import Derived.Deep.Cut
import Derived.Deep.DeepCutAuto
import Derived.Deep.CutBlock
namespace Go.Proofs.Ytfhnfgjffekmiaa.fnExactSampleBetween
open Go.ChangeShapes Go.WideShapes Go.ChangeAt Go.RowKit
set_option linter.unusedVariables false
theorem own : ownKnob Try.prog.godebug = none := by kernel_rfl
theorem laidOut : laidOutB Try.prog = true := by kernel_rfl

theorem wf_i64' {x : Int} (h : (Lit.int .i64 x).wf = true) : I64 x := by
  simp [Lit.wf] at h
  have h1 : IntKind.i64.min = -9223372036854775808 := by decide
  have h2 : IntKind.i64.max = 9223372036854775807 := by decide
  rw [h1] at h
  exact h
set_option maxRecDepth 100000 in
set_option maxHeartbeats 8000000 in
theorem walk (w : World) (tw th tf : Int) (ad : Option Addr) (n cp : Nat) (F : Nat → List Int) (mn : n ≤ 9223372036854775807) (R : BRows w (.slice ad n cp) n F) (mf : ∀ i, i < n → (F i).length ≤ 9223372036854775807) (bf : ByF n F) (a1 : Int) (w1 : (Lit.int .i64 a1).wf = true) (a2 : Int) (w2 : (Lit.int .i64 a2).wf = true) (a3 : Int) (w3 : (Lit.int .i64 a3).wf = true) (a4 : Int) (w4 : (Lit.int .i64 a4).wf = true) (kr kg kb ka : Int) :
    Calls Try.prog 10 #[.agg #[.int .i64 tw, .int .i64 th, .int .i64 tf, .slice ad n cp], .int .i64 a1, .int .i64 a2, .int .i64 a3, .int .i64 a4, .agg #[.int .i64 kr, .int .i64 kg, .int .i64 kb, .int .i64 ka]] w fun e w' => e = .returned (.bool true) ∧ Below w.heap.size w w' := by
  have BA : Below w.heap.size w ((w.alloc (.cells #[.int .i64 tw, .int .i64 th, .int .i64 tf, .slice ad n cp] 40)).alloc (.cells #[.int .i64 kr, .int .i64 kg, .int .i64 kb, .int .i64 ka] 23)) := b2_
  have CA : C4 ((w.alloc (.cells #[.int .i64 tw, .int .i64 th, .int .i64 tf, .slice ad n cp] 40)).alloc (.cells #[.int .i64 kr, .int .i64 kg, .int .i64 kb, .int .i64 ka] 23)) w.heap.size (.int .i64 tw) (.int .i64 th) (.int .i64 tf) (.slice ad n cp) ∧ C4 ((w.alloc (.cells #[.int .i64 tw, .int .i64 th, .int .i64 tf, .slice ad n cp] 40)).alloc (.cells #[.int .i64 kr, .int .i64 kg, .int .i64 kb, .int .i64 ka] 23)) (w.heap.size + 1) (.int .i64 kr) (.int .i64 kg) (.int .i64 kb) (.int .i64 ka) := ⟨(C4.new w 40 (.int .i64 tw) (.int .i64 th) (.int .i64 tf) (.slice ad n cp)).next alloc_b, by
    have h := C4.new (w.alloc (.cells #[.int .i64 tw, .int .i64 th, .int .i64 tf, .slice ad n cp] 40)) 23 (.int .i64 kr) (.int .i64 kg) (.int .i64 kb) (.int .i64 ka)
    rwa [World.size_alloc] at h⟩
  have h28 := szX tw th tf (.slice ad n cp) n F _ (R.next BA) mn mf 1048576 (by decide) (by decide)
  have HRR : Hid (∀ w', Below w.heap.size w w' → BRows w' (.slice ad n cp) n F) := fun w' b => R.next b
  obtain ⟨W1, hW1⟩ : ∃ W, (w.alloc (.cells #[.int .i64 tw, .int .i64 th, .int .i64 tf, .slice ad n cp] 40)).alloc (.cells #[.int .i64 kr, .int .i64 kg, .int .i64 kb, .int .i64 ka] 23) = W := ⟨_, rfl⟩
  have HCA : Hid (∀ w', Below W1.heap.size W1 w' → C4 w' w.heap.size (.int .i64 tw) (.int .i64 th) (.int .i64 tf) (.slice ad n cp) ∧ C4 w' (w.heap.size + 1) (.int .i64 kr) (.int .i64 kg) (.int .i64 kb) (.int .i64 ka)) := fun w' b => by rw [hW1] at CA; exact ⟨CA.1.next b, CA.2.next b⟩
  rw [hW1] at BA CA h28
  have HBA := Hid.mk BA
  have i1 := wf_i64' w1
  have i2 := wf_i64' w2
  have i3 := wf_i64' w3
  have i4 := wf_i64' w4
  clear R BA CA w1 w2 w3 w4
  subst hW1
  go_enter Try.func10, Try.ntmps10
  go_upto_region 5 with (go_at_call 23; refine h28.mono ?_; rintro e w2 ⟨⟨x, rfl, hx⟩, B2⟩; (obtain ⟨TA, KA⟩ := HCA.out w2 B2); (have q0 := TA.c0); (have q1 := TA.c1); (have q2 := TA.c2); (have q3 := TA.c3); (have qh := TA.hi); (have p0 := KA.c0); (have p1 := KA.c1); (have p2 := KA.c2); (have p3 := KA.c3); (have ph := KA.hi))
  · go_ret
    exact ⟨rfl, HBA.out.trans (B2.mono HBA.out.size)⟩
  rename_i hx0
  have hx2 : (n : Int) + (tot F n : Int) ≤ 1048576 := by rcases hx with h | ⟨h1, h2, h3⟩; omega; omega
  have hn : n ≤ 1048576 := by omega
  have HL : Hid (∀ i, i < n → (F i).length ≤ 1048576) := fun i hi => by have := tot_le F hi; omega
  have BX : Below w.heap.size w w2 := HBA.out.trans (B2.mono HBA.out.size)
  have HT : Hid (∀ w', Below w.heap.size w w' → Calls Try.prog 25 #[.agg #[.int .i64 tw, .int .i64 th, .int .i64 tf, .slice ad n cp]] w' fun r w'' => ∃ g, r = .returned (.agg #[.int .i64 tw, .int .i64 th, .int .i64 tf, .slice (some ⟨g, 0, none⟩) n n]) ∧ w'.heap.size ≤ g ∧ (∃ p, Cp g n n F p w'') ∧ Below w'.heap.size w' w'') := fun w' b => toX tw th tf _ n F w' (HRR.out w' b) hn HL.out
  have HM : Hid (∀ w' v, BRows w' v n F → Calls Try.prog 40 #[.agg #[.int .i64 tw, .int .i64 th, .int .i64 tf, v], .int .i64 a1, .int .i64 a2, .int .i64 a3, .int .i64 a4, .agg #[.int .i64 kr, .int .i64 kg, .int .i64 kb, .int .i64 ka]] w' fun e w'' => e = .returned (.tuple #[colV (sbC tw th tf n F a1 a2 a3 a4 ⟨kr, kg, kb, ka⟩), .bool (sbB tw th tf n F a1 a2 a3 a4 ⟨kr, kg, kb, ka⟩)]) ∧ Below w'.heap.size w' w'') := fun w' v r => mbet tw th tf v n F a1 a2 a3 a4 ⟨kr, kg, kb, ka⟩ w' r bf  hn HL.out
  have HP : Hid (∀ w' v, BRows w' v n F → Calls Try.prog 41 #[.agg #[.int .i64 tw, .int .i64 th, .int .i64 tf, v], .int .i64 a1, .int .i64 a2, .int .i64 a3, .int .i64 a4, .agg #[.int .i64 kr, .int .i64 kg, .int .i64 kb, .int .i64 ka]] w' fun e w'' => e = .returned (.tuple #[colV (sbC tw th tf n F a1 a2 a3 a4 ⟨kr, kg, kb, ka⟩), .bool (sbB tw th tf n F a1 a2 a3 a4 ⟨kr, kg, kb, ka⟩)]) ∧ Below w'.heap.size w' w'') := fun w' v r => pbet tw th tf v n F a1 a2 a3 a4 ⟨kr, kg, kb, ka⟩ w' r bf  hn HL.out
  unfold colV at HM HP
  generalize (sbC tw th tf n F a1 a2 a3 a4 ⟨kr, kg, kb, ka⟩) = q at HM HP
  generalize (sbB tw th tf n F a1 a2 a3 a4 ⟨kr, kg, kb, ka⟩) = GB at HM HP
  clear hx hx2 B2 HBA h28 mn mf HRR HCA bf q0 q1 q2 q3 qh p0 p1 p2 p3 ph i1 i2 i3 i4
  go_cut [14, 15] (fun pv bv wx => ∃ ab : Nat, pv = .pointer (some ⟨ab, 0, none⟩) ∧ bv = .bool GB ∧ C4 wx ab (.int .i64 q.r) (.int .i64 q.g) (.int .i64 q.b) (.int .i64 q.a) ∧ Below w2.heap.size w2 wx ∧ w2.heap.size ≤ ab)
  case first =>
    generalize hWW : w2.drew = WX
    have TA := TA.next (below_drew (Below.refl _ _))
    have KA := KA.next (below_drew (Below.refl _ _))
    have BX := below_drew BX
    have BX2 : Below w2.heap.size w2 w2.drew := below_drew (Below.refl _ _)
    rw [hWW] at TA KA BX BX2
    refine wp_region_held_drew (S := fun v => Below WX.heap.size WX v) (by kernel_rfl) (by rw [hWW]; exact Below.refl _ _) (fun hH => ?_)
    rw [hWW] at hH ⊢
    clear hWW
    refine wpAnyH_take (i := 0) (oi := { dst := some 25, op := Op.load 40 (Operand.tmp 6), type := 40, pos := "exact.go:5280", after := #[], guard := none }) (v := .agg #[.int .i64 tw, .int .i64 th, .int .i64 tf, .slice ad n cp]) rfl (by kernel_rfl) (by kernel_rfl) (by kernel_rfl) (fun _ _ _ h => h) (Or.inl ⟨by rfl, fun w0 hSw => by ((have e0 := cell_nx TA.c0 hSw); (have e1 := cell_nx TA.c1 hSw); (have e2 := cell_nx TA.c2 hSw); (have e3 := cell_nx TA.c3 hSw); go_simp)⟩) hH ?_
    simp only [Act.put, List.setIfInBounds_toArray, List.set_cons_zero, List.set_cons_succ]
    refine wpAnyH_take (i := 2) (oi := { dst := some 27, op := Op.move (Operand.tmp 1), type := 3, pos := "exact.go:5280", after := #[], guard := none }) (v := .int .i64 a1) rfl (by kernel_rfl) (by kernel_rfl) (by kernel_rfl) (fun _ _ _ h => h) (Or.inl ⟨by rfl, fun w0 hSw => by (go_simp)⟩) hH ?_
    simp only [Act.put, List.setIfInBounds_toArray, List.set_cons_zero, List.set_cons_succ]
    refine wpAnyH_take (i := 3) (oi := { dst := some 28, op := Op.move (Operand.tmp 2), type := 3, pos := "exact.go:5280", after := #[], guard := none }) (v := .int .i64 a2) rfl (by kernel_rfl) (by kernel_rfl) (by kernel_rfl) (fun _ _ _ h => h) (Or.inl ⟨by rfl, fun w0 hSw => by (go_simp)⟩) hH ?_
    simp only [Act.put, List.setIfInBounds_toArray, List.set_cons_zero, List.set_cons_succ]
    refine wpAnyH_take (i := 4) (oi := { dst := some 29, op := Op.move (Operand.tmp 3), type := 3, pos := "exact.go:5280", after := #[], guard := none }) (v := .int .i64 a3) rfl (by kernel_rfl) (by kernel_rfl) (by kernel_rfl) (fun _ _ _ h => h) (Or.inl ⟨by rfl, fun w0 hSw => by (go_simp)⟩) hH ?_
    simp only [Act.put, List.setIfInBounds_toArray, List.set_cons_zero, List.set_cons_succ]
    refine wpAnyH_take (i := 5) (oi := { dst := some 30, op := Op.move (Operand.tmp 4), type := 3, pos := "exact.go:5280", after := #[], guard := none }) (v := .int .i64 a4) rfl (by kernel_rfl) (by kernel_rfl) (by kernel_rfl) (fun _ _ _ h => h) (Or.inl ⟨by rfl, fun w0 hSw => by (go_simp)⟩) hH ?_
    simp only [Act.put, List.setIfInBounds_toArray, List.set_cons_zero, List.set_cons_succ]
    refine wpAnyH_take (i := 6) (oi := { dst := some 31, op := Op.load 23 (Operand.tmp 11), type := 23, pos := "exact.go:5280", after := #[], guard := none }) (v := .agg #[.int .i64 kr, .int .i64 kg, .int .i64 kb, .int .i64 ka]) rfl (by kernel_rfl) (by kernel_rfl) (by kernel_rfl) (fun _ _ _ h => h) (Or.inl ⟨by rfl, fun w0 hSw => by ((have e0 := cell_nx KA.c0 hSw); (have e1 := cell_nx KA.c1 hSw); (have e2 := cell_nx KA.c2 hSw); (have e3 := cell_nx KA.c3 hSw); go_simp)⟩) hH ?_
    simp only [Act.put, List.setIfInBounds_toArray, List.set_cons_zero, List.set_cons_succ]
    refine wpAnyH_ready (rs := [1, 12]) (by kernel_rfl) (by simp) ?_
    refine (AllReadyH.cons (o := { dst := some 26, op := Op.call { callee := Callee.value (Operand.func 25), args := #[Operand.tmp 25], argTypes := #[40] }, type := 43, pos := "exact.go:5280", after := #[{ on := 0, ground := Ground.data }], guard := none }) rfl (fun K hK => ?_) (AllReadyH.cons (o := { dst := some 14, op := Op.alloc 25, type := 0, pos := "exact.go:5280", after := #[], guard := none }) rfl (fun K hK => ?_) AllReadyH.nil))
    · refine step_callC 25 #[.agg #[.int .i64 tw, .int .i64 th, .int .i64 tf, .slice ad n cp]] (fun z v w' => ∃ g, z = .agg #[.int .i64 tw, .int .i64 th, .int .i64 tf, .slice (some ⟨g, 0, none⟩) n n] ∧ v.heap.size ≤ g ∧ (∃ p, Cp g n n F p w') ∧ Below v.heap.size v w') (by rfl) (by go_simp) ((HT.out _ (BX.trans (hH.mono BX.size))).mono fun e w' ⟨g, h1, h2, h3, h4⟩ => ⟨_, h1, g, rfl, h2, h3, h4⟩) ?_
      rintro z8 wA ⟨g8, rfl, _, ⟨p8, P8⟩, B8⟩
      simp only [Act.put, List.setIfInBounds_toArray, List.set_cons_zero, List.set_cons_succ]
      refine hK.out _ _ (hH.trans (B8.mono hH.size)) (fun hH' => ?_)
      clear hK K
      replace hH := hH'
      clear hH' 
      clear B8
      refine wpAnyH_ready (rs := [7, 12]) (by kernel_rfl) (by simp) ?_
      refine (AllReadyH.cons (o := { dst := some 32, op := Op.call { callee := Callee.value (Operand.func 12), args := #[Operand.tmp 31], argTypes := #[23] }, type := 25, pos := "exact.go:5280", after := #[{ on := 6, ground := Ground.data }, { on := 1, ground := Ground.chain }], guard := none }) rfl (fun K hK => ?_) (AllReadyH.cons (o := { dst := some 14, op := Op.alloc 25, type := 0, pos := "exact.go:5280", after := #[], guard := none }) rfl (fun K hK => ?_) AllReadyH.nil))
      · refine step_callC 12 #[.agg #[.int .i64 kr, .int .i64 kg, .int .i64 kb, .int .i64 ka]] (fun z v w' => z = .agg #[.int .i64 kr, .int .i64 kg, .int .i64 kb, .int .i64 ka] ∧ Below v.heap.size v w') (by rfl) (by go_simp) ((toK kr kg kb ka _).mono fun e w' ⟨h1, h2⟩ => ⟨_, h1, rfl, h2⟩) ?_
        rintro z9 wB ⟨rfl, B9⟩
        replace P8 := P8.next B9
        simp only [Act.put, List.setIfInBounds_toArray, List.set_cons_zero, List.set_cons_succ]
        refine hK.out _ _ (hH.trans (B9.mono hH.size)) (fun hH' => ?_)
        clear hK K
        replace hH := hH'
        clear hH' 
        clear B9
        refine wpAnyH_ready (rs := [8, 12]) (by kernel_rfl) (by simp) ?_
        refine (AllReadyH.cons (o := { dst := some 33, op := Op.call { callee := Callee.value (Operand.func 40), args := #[Operand.tmp 26, Operand.tmp 27, Operand.tmp 28, Operand.tmp 29, Operand.tmp 30, Operand.tmp 32], argTypes := #[43, 3, 3, 3, 3, 25] }, type := 33, pos := "exact.go:5280", after := #[{ on := 1, ground := Ground.data }, { on := 2, ground := Ground.data }, { on := 3, ground := Ground.data }, { on := 4, ground := Ground.data }, { on := 5, ground := Ground.data }, { on := 7, ground := Ground.data }, { on := 7, ground := Ground.chain }], guard := none }) rfl (fun K hK => ?_) (AllReadyH.cons (o := { dst := some 14, op := Op.alloc 25, type := 0, pos := "exact.go:5280", after := #[], guard := none }) rfl (fun K hK => ?_) AllReadyH.nil))
        · refine step_callC 40 #[.agg #[.int .i64 tw, .int .i64 th, .int .i64 tf, .slice (some ⟨g8, 0, none⟩) n n], .int .i64 a1, .int .i64 a2, .int .i64 a3, .int .i64 a4, .agg #[.int .i64 kr, .int .i64 kg, .int .i64 kb, .int .i64 ka]] (fun z v w' => z = .tuple #[.agg #[.int .i64 q.r, .int .i64 q.g, .int .i64 q.b, .int .i64 q.a], .bool GB] ∧ Below v.heap.size v w') (by rfl) (by go_simp) ((HM.out _ _ P8.rows).mono fun e w' ⟨h1, h2⟩ => ⟨_, h1, rfl, h2⟩) ?_
          rintro z7 wC ⟨rfl, B7⟩
          replace P8 := P8.next B7
          simp only [Act.put, List.setIfInBounds_toArray, List.set_cons_zero, List.set_cons_succ]
          refine hK.out _ _ (hH.trans (B7.mono hH.size)) (fun hH' => ?_)
          clear hK K
          replace hH := hH'
          clear hH' 
          clear B7
          refine wpAnyH_take (i := 9) (oi := { dst := some 24, op := Op.move (Operand.tmp 33), type := 33, pos := "exact.go:5280", after := #[{ on := 8, ground := Ground.data }], guard := none }) (v := .tuple #[.agg #[.int .i64 q.r, .int .i64 q.g, .int .i64 q.b, .int .i64 q.a], .bool GB]) rfl (by kernel_rfl) (by kernel_rfl) (by kernel_rfl) (fun _ _ _ h => h) (Or.inl ⟨by rfl, fun w0 hSw => by (go_simp)⟩) hH ?_
          simp only [Act.put, List.setIfInBounds_toArray, List.set_cons_zero, List.set_cons_succ]
          refine wpAnyH_take (i := 10) (oi := { dst := some 34, op := Op.extract (Operand.tmp 24) 0, type := 25, pos := "exact.go:5280", after := #[{ on := 9, ground := Ground.data }], guard := none }) (v := .agg #[.int .i64 q.r, .int .i64 q.g, .int .i64 q.b, .int .i64 q.a]) rfl (by kernel_rfl) (by kernel_rfl) (by kernel_rfl) (fun _ _ _ h => h) (Or.inl ⟨by rfl, fun w0 hSw => by (go_simp)⟩) hH ?_
          simp only [Act.put, List.setIfInBounds_toArray, List.set_cons_zero, List.set_cons_succ]
          refine wpAnyH_take (i := 11) (oi := { dst := some 35, op := Op.extract (Operand.tmp 24) 1, type := 4, pos := "exact.go:5280", after := #[{ on := 9, ground := Ground.data }, { on := 13, ground := Ground.gcOnly Departure.lateStores }], guard := none }) (v := .bool GB) rfl (by kernel_rfl) (by kernel_rfl) (by kernel_rfl) (fun _ _ _ h => h) (Or.inl ⟨by rfl, fun w0 hSw => by (go_simp)⟩) hH ?_
          simp only [Act.put, List.setIfInBounds_toArray, List.set_cons_zero, List.set_cons_succ]
          refine wpAnyH_ready (rs := [12]) (by kernel_rfl) (by simp) ?_
          refine (AllReadyH.cons (o := { dst := some 14, op := Op.alloc 25, type := 0, pos := "exact.go:5280", after := #[], guard := none }) rfl (fun K hK => ?_) AllReadyH.nil)
          refine step_val (.pointer (some ⟨wC.heap.size, 0, none⟩)) (wC.alloc (.cells #[.int .i64 0, .int .i64 0, .int .i64 0, .int .i64 0] 25)) (by rfl) (by go_simp) ?_
          have D8 := C4.new wC 25 (.int .i64 0) (.int .i64 0) (.int .i64 0) (.int .i64 0)
          have hD8 : WX.heap.size ≤ wC.heap.size := hH.size
          replace P8 := P8.next (alloc_b (o := (.cells #[.int .i64 0, .int .i64 0, .int .i64 0, .int .i64 0] 25)))
          simp only [Act.put, List.setIfInBounds_toArray, List.set_cons_zero, List.set_cons_succ]
          refine hK.out _ _ (hH.trans (alloc_b.mono hH.size)) (fun hH' => ?_)
          clear hK K
          replace hH := hH'
          clear hH' 
          generalize wC.alloc (.cells #[.int .i64 0, .int .i64 0, .int .i64 0, .int .i64 0] 25) = wN at D8 P8 hH ⊢
          refine wpAnyH_ready (rs := [13]) (by kernel_rfl) (by simp) ?_
          refine (AllReadyH.cons (o := { dst := none, op := Op.store 25 (Operand.tmp 14) (Operand.tmp 34), type := 0, pos := "exact.go:5280", after := #[{ on := 12, ground := Ground.data }, { on := 10, ground := Ground.data }, { on := 8, ground := Ground.chain }, { on := 0, ground := Ground.phase }, { on := 1, ground := Ground.phase }, { on := 2, ground := Ground.phase }, { on := 3, ground := Ground.phase }, { on := 4, ground := Ground.phase }, { on := 5, ground := Ground.phase }, { on := 6, ground := Ground.phase }, { on := 7, ground := Ground.phase }, { on := 8, ground := Ground.phase }, { on := 9, ground := Ground.phase }, { on := 10, ground := Ground.phase }, { on := 11, ground := Ground.textOnly Departure.lateStores }, { on := 12, ground := Ground.phase }], guard := none }) rfl (fun K hK => ?_) AllReadyH.nil)
          have s0 := D8.c0
          have s1 := D8.c1
          have s2 := D8.c2
          have s3 := D8.c3
          have sf := D8.f
          refine step_skip (set4 wN (wC.heap.size) (.int .i64 q.r) (.int .i64 q.g) (.int .i64 q.b) (.int .i64 q.a)) (by rfl) (by unfold set4; go_simp) ?_
          have D9 := D8.put (.int .i64 q.r) (.int .i64 q.g) (.int .i64 q.b) (.int .i64 q.a)
          have B9 : Below WX.heap.size WX (set4 wN (wC.heap.size) (.int .i64 q.r) (.int .i64 q.g) (.int .i64 q.b) (.int .i64 q.a)) := hH.trans ((only_set4 wN (wC.heap.size) (.int .i64 q.r) (.int .i64 q.g) (.int .i64 q.b) (.int .i64 q.a)).below hD8 hH.size)
          refine hK.out _ _ B9 (fun hH' => ?_)
          clear hK K
          replace hH := hH'
          clear hH' s0 s1 s2 s3 sf D8
          refine wpAnyH_take (i := 14) (oi := { dst := some 15, op := Op.assign (Operand.tmp 35), type := 4, pos := "exact.go:5280", after := #[{ on := 11, ground := Ground.data }, { on := 13, ground := Ground.chain }, { on := 0, ground := Ground.phase }, { on := 1, ground := Ground.phase }, { on := 2, ground := Ground.phase }, { on := 3, ground := Ground.phase }, { on := 4, ground := Ground.phase }, { on := 5, ground := Ground.phase }, { on := 6, ground := Ground.phase }, { on := 7, ground := Ground.phase }, { on := 8, ground := Ground.phase }, { on := 9, ground := Ground.phase }, { on := 10, ground := Ground.phase }, { on := 11, ground := Ground.phase }, { on := 12, ground := Ground.phase }, { on := 13, ground := Ground.phase }], guard := none }) (v := .bool GB) rfl (by kernel_rfl) (by kernel_rfl) (by kernel_rfl) (fun _ _ _ h => h) (Or.inl ⟨by rfl, fun w0 hSw => by (go_simp)⟩) hH ?_
          simp only [Act.put, List.setIfInBounds_toArray, List.set_cons_zero, List.set_cons_succ]
          refine wpAnyH_done (by kernel_rfl) ?_ _
          go_wp2_with fail
          go_meet
          case rel => exact ⟨wC.heap.size, rfl, rfl, D9, BX2.trans (B9.mono BX2.size), Nat.le_trans BX2.size hD8⟩
        · refine step_val (.pointer (some ⟨wB.heap.size, 0, none⟩)) (wB.alloc (.cells #[.int .i64 0, .int .i64 0, .int .i64 0, .int .i64 0] 25)) (by rfl) (by go_simp) ?_
          have D8 := C4.new wB 25 (.int .i64 0) (.int .i64 0) (.int .i64 0) (.int .i64 0)
          have hD8 : WX.heap.size ≤ wB.heap.size := hH.size
          replace P8 := P8.next (alloc_b (o := (.cells #[.int .i64 0, .int .i64 0, .int .i64 0, .int .i64 0] 25)))
          simp only [Act.put, List.setIfInBounds_toArray, List.set_cons_zero, List.set_cons_succ]
          refine hK.out _ _ (hH.trans (alloc_b.mono hH.size)) (fun hH' => ?_)
          clear hK K
          replace hH := hH'
          clear hH' 
          generalize wB.alloc (.cells #[.int .i64 0, .int .i64 0, .int .i64 0, .int .i64 0] 25) = wN at D8 P8 hH ⊢
          refine wpAnyH_ready (rs := [8]) (by kernel_rfl) (by simp) ?_
          refine (AllReadyH.cons (o := { dst := some 33, op := Op.call { callee := Callee.value (Operand.func 40), args := #[Operand.tmp 26, Operand.tmp 27, Operand.tmp 28, Operand.tmp 29, Operand.tmp 30, Operand.tmp 32], argTypes := #[43, 3, 3, 3, 3, 25] }, type := 33, pos := "exact.go:5280", after := #[{ on := 1, ground := Ground.data }, { on := 2, ground := Ground.data }, { on := 3, ground := Ground.data }, { on := 4, ground := Ground.data }, { on := 5, ground := Ground.data }, { on := 7, ground := Ground.data }, { on := 7, ground := Ground.chain }], guard := none }) rfl (fun K hK => ?_) AllReadyH.nil)
          refine step_callC 40 #[.agg #[.int .i64 tw, .int .i64 th, .int .i64 tf, .slice (some ⟨g8, 0, none⟩) n n], .int .i64 a1, .int .i64 a2, .int .i64 a3, .int .i64 a4, .agg #[.int .i64 kr, .int .i64 kg, .int .i64 kb, .int .i64 ka]] (fun z v w' => z = .tuple #[.agg #[.int .i64 q.r, .int .i64 q.g, .int .i64 q.b, .int .i64 q.a], .bool GB] ∧ Below v.heap.size v w') (by rfl) (by go_simp) ((HM.out _ _ P8.rows).mono fun e w' ⟨h1, h2⟩ => ⟨_, h1, rfl, h2⟩) ?_
          rintro z7 wC ⟨rfl, B7⟩
          replace P8 := P8.next B7
          replace D8 := D8.next B7
          simp only [Act.put, List.setIfInBounds_toArray, List.set_cons_zero, List.set_cons_succ]
          refine hK.out _ _ (hH.trans (B7.mono hH.size)) (fun hH' => ?_)
          clear hK K
          replace hH := hH'
          clear hH' 
          clear B7
          refine wpAnyH_take (i := 9) (oi := { dst := some 24, op := Op.move (Operand.tmp 33), type := 33, pos := "exact.go:5280", after := #[{ on := 8, ground := Ground.data }], guard := none }) (v := .tuple #[.agg #[.int .i64 q.r, .int .i64 q.g, .int .i64 q.b, .int .i64 q.a], .bool GB]) rfl (by kernel_rfl) (by kernel_rfl) (by kernel_rfl) (fun _ _ _ h => h) (Or.inl ⟨by rfl, fun w0 hSw => by (go_simp)⟩) hH ?_
          simp only [Act.put, List.setIfInBounds_toArray, List.set_cons_zero, List.set_cons_succ]
          refine wpAnyH_take (i := 10) (oi := { dst := some 34, op := Op.extract (Operand.tmp 24) 0, type := 25, pos := "exact.go:5280", after := #[{ on := 9, ground := Ground.data }], guard := none }) (v := .agg #[.int .i64 q.r, .int .i64 q.g, .int .i64 q.b, .int .i64 q.a]) rfl (by kernel_rfl) (by kernel_rfl) (by kernel_rfl) (fun _ _ _ h => h) (Or.inl ⟨by rfl, fun w0 hSw => by (go_simp)⟩) hH ?_
          simp only [Act.put, List.setIfInBounds_toArray, List.set_cons_zero, List.set_cons_succ]
          refine wpAnyH_take (i := 11) (oi := { dst := some 35, op := Op.extract (Operand.tmp 24) 1, type := 4, pos := "exact.go:5280", after := #[{ on := 9, ground := Ground.data }, { on := 13, ground := Ground.gcOnly Departure.lateStores }], guard := none }) (v := .bool GB) rfl (by kernel_rfl) (by kernel_rfl) (by kernel_rfl) (fun _ _ _ h => h) (Or.inl ⟨by rfl, fun w0 hSw => by (go_simp)⟩) hH ?_
          simp only [Act.put, List.setIfInBounds_toArray, List.set_cons_zero, List.set_cons_succ]
          refine wpAnyH_ready (rs := [13]) (by kernel_rfl) (by simp) ?_
          refine (AllReadyH.cons (o := { dst := none, op := Op.store 25 (Operand.tmp 14) (Operand.tmp 34), type := 0, pos := "exact.go:5280", after := #[{ on := 12, ground := Ground.data }, { on := 10, ground := Ground.data }, { on := 8, ground := Ground.chain }, { on := 0, ground := Ground.phase }, { on := 1, ground := Ground.phase }, { on := 2, ground := Ground.phase }, { on := 3, ground := Ground.phase }, { on := 4, ground := Ground.phase }, { on := 5, ground := Ground.phase }, { on := 6, ground := Ground.phase }, { on := 7, ground := Ground.phase }, { on := 8, ground := Ground.phase }, { on := 9, ground := Ground.phase }, { on := 10, ground := Ground.phase }, { on := 11, ground := Ground.textOnly Departure.lateStores }, { on := 12, ground := Ground.phase }], guard := none }) rfl (fun K hK => ?_) AllReadyH.nil)
          have s0 := D8.c0
          have s1 := D8.c1
          have s2 := D8.c2
          have s3 := D8.c3
          have sf := D8.f
          refine step_skip (set4 wC (wB.heap.size) (.int .i64 q.r) (.int .i64 q.g) (.int .i64 q.b) (.int .i64 q.a)) (by rfl) (by unfold set4; go_simp) ?_
          have D9 := D8.put (.int .i64 q.r) (.int .i64 q.g) (.int .i64 q.b) (.int .i64 q.a)
          have B9 : Below WX.heap.size WX (set4 wC (wB.heap.size) (.int .i64 q.r) (.int .i64 q.g) (.int .i64 q.b) (.int .i64 q.a)) := hH.trans ((only_set4 wC (wB.heap.size) (.int .i64 q.r) (.int .i64 q.g) (.int .i64 q.b) (.int .i64 q.a)).below hD8 hH.size)
          refine hK.out _ _ B9 (fun hH' => ?_)
          clear hK K
          replace hH := hH'
          clear hH' s0 s1 s2 s3 sf D8
          refine wpAnyH_take (i := 14) (oi := { dst := some 15, op := Op.assign (Operand.tmp 35), type := 4, pos := "exact.go:5280", after := #[{ on := 11, ground := Ground.data }, { on := 13, ground := Ground.chain }, { on := 0, ground := Ground.phase }, { on := 1, ground := Ground.phase }, { on := 2, ground := Ground.phase }, { on := 3, ground := Ground.phase }, { on := 4, ground := Ground.phase }, { on := 5, ground := Ground.phase }, { on := 6, ground := Ground.phase }, { on := 7, ground := Ground.phase }, { on := 8, ground := Ground.phase }, { on := 9, ground := Ground.phase }, { on := 10, ground := Ground.phase }, { on := 11, ground := Ground.phase }, { on := 12, ground := Ground.phase }, { on := 13, ground := Ground.phase }], guard := none }) (v := .bool GB) rfl (by kernel_rfl) (by kernel_rfl) (by kernel_rfl) (fun _ _ _ h => h) (Or.inl ⟨by rfl, fun w0 hSw => by (go_simp)⟩) hH ?_
          simp only [Act.put, List.setIfInBounds_toArray, List.set_cons_zero, List.set_cons_succ]
          refine wpAnyH_done (by kernel_rfl) ?_ _
          go_wp2_with fail
          go_meet
          case rel => exact ⟨wB.heap.size, rfl, rfl, D9, BX2.trans (B9.mono BX2.size), Nat.le_trans BX2.size hD8⟩
      · refine step_val (.pointer (some ⟨wA.heap.size, 0, none⟩)) (wA.alloc (.cells #[.int .i64 0, .int .i64 0, .int .i64 0, .int .i64 0] 25)) (by rfl) (by go_simp) ?_
        have D8 := C4.new wA 25 (.int .i64 0) (.int .i64 0) (.int .i64 0) (.int .i64 0)
        have hD8 : WX.heap.size ≤ wA.heap.size := hH.size
        replace P8 := P8.next (alloc_b (o := (.cells #[.int .i64 0, .int .i64 0, .int .i64 0, .int .i64 0] 25)))
        simp only [Act.put, List.setIfInBounds_toArray, List.set_cons_zero, List.set_cons_succ]
        refine hK.out _ _ (hH.trans (alloc_b.mono hH.size)) (fun hH' => ?_)
        clear hK K
        replace hH := hH'
        clear hH' 
        generalize wA.alloc (.cells #[.int .i64 0, .int .i64 0, .int .i64 0, .int .i64 0] 25) = wN at D8 P8 hH ⊢
        refine wpAnyH_ready (rs := [7]) (by kernel_rfl) (by simp) ?_
        refine (AllReadyH.cons (o := { dst := some 32, op := Op.call { callee := Callee.value (Operand.func 12), args := #[Operand.tmp 31], argTypes := #[23] }, type := 25, pos := "exact.go:5280", after := #[{ on := 6, ground := Ground.data }, { on := 1, ground := Ground.chain }], guard := none }) rfl (fun K hK => ?_) AllReadyH.nil)
        refine step_callC 12 #[.agg #[.int .i64 kr, .int .i64 kg, .int .i64 kb, .int .i64 ka]] (fun z v w' => z = .agg #[.int .i64 kr, .int .i64 kg, .int .i64 kb, .int .i64 ka] ∧ Below v.heap.size v w') (by rfl) (by go_simp) ((toK kr kg kb ka _).mono fun e w' ⟨h1, h2⟩ => ⟨_, h1, rfl, h2⟩) ?_
        rintro z9 wB ⟨rfl, B9⟩
        replace P8 := P8.next B9
        replace D8 := D8.next B9
        simp only [Act.put, List.setIfInBounds_toArray, List.set_cons_zero, List.set_cons_succ]
        refine hK.out _ _ (hH.trans (B9.mono hH.size)) (fun hH' => ?_)
        clear hK K
        replace hH := hH'
        clear hH' 
        clear B9
        refine wpAnyH_ready (rs := [8]) (by kernel_rfl) (by simp) ?_
        refine (AllReadyH.cons (o := { dst := some 33, op := Op.call { callee := Callee.value (Operand.func 40), args := #[Operand.tmp 26, Operand.tmp 27, Operand.tmp 28, Operand.tmp 29, Operand.tmp 30, Operand.tmp 32], argTypes := #[43, 3, 3, 3, 3, 25] }, type := 33, pos := "exact.go:5280", after := #[{ on := 1, ground := Ground.data }, { on := 2, ground := Ground.data }, { on := 3, ground := Ground.data }, { on := 4, ground := Ground.data }, { on := 5, ground := Ground.data }, { on := 7, ground := Ground.data }, { on := 7, ground := Ground.chain }], guard := none }) rfl (fun K hK => ?_) AllReadyH.nil)
        refine step_callC 40 #[.agg #[.int .i64 tw, .int .i64 th, .int .i64 tf, .slice (some ⟨g8, 0, none⟩) n n], .int .i64 a1, .int .i64 a2, .int .i64 a3, .int .i64 a4, .agg #[.int .i64 kr, .int .i64 kg, .int .i64 kb, .int .i64 ka]] (fun z v w' => z = .tuple #[.agg #[.int .i64 q.r, .int .i64 q.g, .int .i64 q.b, .int .i64 q.a], .bool GB] ∧ Below v.heap.size v w') (by rfl) (by go_simp) ((HM.out _ _ P8.rows).mono fun e w' ⟨h1, h2⟩ => ⟨_, h1, rfl, h2⟩) ?_
        rintro z7 wC ⟨rfl, B7⟩
        replace P8 := P8.next B7
        replace D8 := D8.next B7
        simp only [Act.put, List.setIfInBounds_toArray, List.set_cons_zero, List.set_cons_succ]
        refine hK.out _ _ (hH.trans (B7.mono hH.size)) (fun hH' => ?_)
        clear hK K
        replace hH := hH'
        clear hH' 
        clear B7
        refine wpAnyH_take (i := 9) (oi := { dst := some 24, op := Op.move (Operand.tmp 33), type := 33, pos := "exact.go:5280", after := #[{ on := 8, ground := Ground.data }], guard := none }) (v := .tuple #[.agg #[.int .i64 q.r, .int .i64 q.g, .int .i64 q.b, .int .i64 q.a], .bool GB]) rfl (by kernel_rfl) (by kernel_rfl) (by kernel_rfl) (fun _ _ _ h => h) (Or.inl ⟨by rfl, fun w0 hSw => by (go_simp)⟩) hH ?_
        simp only [Act.put, List.setIfInBounds_toArray, List.set_cons_zero, List.set_cons_succ]
        refine wpAnyH_take (i := 10) (oi := { dst := some 34, op := Op.extract (Operand.tmp 24) 0, type := 25, pos := "exact.go:5280", after := #[{ on := 9, ground := Ground.data }], guard := none }) (v := .agg #[.int .i64 q.r, .int .i64 q.g, .int .i64 q.b, .int .i64 q.a]) rfl (by kernel_rfl) (by kernel_rfl) (by kernel_rfl) (fun _ _ _ h => h) (Or.inl ⟨by rfl, fun w0 hSw => by (go_simp)⟩) hH ?_
        simp only [Act.put, List.setIfInBounds_toArray, List.set_cons_zero, List.set_cons_succ]
        refine wpAnyH_take (i := 11) (oi := { dst := some 35, op := Op.extract (Operand.tmp 24) 1, type := 4, pos := "exact.go:5280", after := #[{ on := 9, ground := Ground.data }, { on := 13, ground := Ground.gcOnly Departure.lateStores }], guard := none }) (v := .bool GB) rfl (by kernel_rfl) (by kernel_rfl) (by kernel_rfl) (fun _ _ _ h => h) (Or.inl ⟨by rfl, fun w0 hSw => by (go_simp)⟩) hH ?_
        simp only [Act.put, List.setIfInBounds_toArray, List.set_cons_zero, List.set_cons_succ]
        refine wpAnyH_ready (rs := [13]) (by kernel_rfl) (by simp) ?_
        refine (AllReadyH.cons (o := { dst := none, op := Op.store 25 (Operand.tmp 14) (Operand.tmp 34), type := 0, pos := "exact.go:5280", after := #[{ on := 12, ground := Ground.data }, { on := 10, ground := Ground.data }, { on := 8, ground := Ground.chain }, { on := 0, ground := Ground.phase }, { on := 1, ground := Ground.phase }, { on := 2, ground := Ground.phase }, { on := 3, ground := Ground.phase }, { on := 4, ground := Ground.phase }, { on := 5, ground := Ground.phase }, { on := 6, ground := Ground.phase }, { on := 7, ground := Ground.phase }, { on := 8, ground := Ground.phase }, { on := 9, ground := Ground.phase }, { on := 10, ground := Ground.phase }, { on := 11, ground := Ground.textOnly Departure.lateStores }, { on := 12, ground := Ground.phase }], guard := none }) rfl (fun K hK => ?_) AllReadyH.nil)
        have s0 := D8.c0
        have s1 := D8.c1
        have s2 := D8.c2
        have s3 := D8.c3
        have sf := D8.f
        refine step_skip (set4 wC (wA.heap.size) (.int .i64 q.r) (.int .i64 q.g) (.int .i64 q.b) (.int .i64 q.a)) (by rfl) (by unfold set4; go_simp) ?_
        have D9 := D8.put (.int .i64 q.r) (.int .i64 q.g) (.int .i64 q.b) (.int .i64 q.a)
        have B9 : Below WX.heap.size WX (set4 wC (wA.heap.size) (.int .i64 q.r) (.int .i64 q.g) (.int .i64 q.b) (.int .i64 q.a)) := hH.trans ((only_set4 wC (wA.heap.size) (.int .i64 q.r) (.int .i64 q.g) (.int .i64 q.b) (.int .i64 q.a)).below hD8 hH.size)
        refine hK.out _ _ B9 (fun hH' => ?_)
        clear hK K
        replace hH := hH'
        clear hH' s0 s1 s2 s3 sf D8
        refine wpAnyH_take (i := 14) (oi := { dst := some 15, op := Op.assign (Operand.tmp 35), type := 4, pos := "exact.go:5280", after := #[{ on := 11, ground := Ground.data }, { on := 13, ground := Ground.chain }, { on := 0, ground := Ground.phase }, { on := 1, ground := Ground.phase }, { on := 2, ground := Ground.phase }, { on := 3, ground := Ground.phase }, { on := 4, ground := Ground.phase }, { on := 5, ground := Ground.phase }, { on := 6, ground := Ground.phase }, { on := 7, ground := Ground.phase }, { on := 8, ground := Ground.phase }, { on := 9, ground := Ground.phase }, { on := 10, ground := Ground.phase }, { on := 11, ground := Ground.phase }, { on := 12, ground := Ground.phase }, { on := 13, ground := Ground.phase }], guard := none }) (v := .bool GB) rfl (by kernel_rfl) (by kernel_rfl) (by kernel_rfl) (fun _ _ _ h => h) (Or.inl ⟨by rfl, fun w0 hSw => by (go_simp)⟩) hH ?_
        simp only [Act.put, List.setIfInBounds_toArray, List.set_cons_zero, List.set_cons_succ]
        refine wpAnyH_done (by kernel_rfl) ?_ _
        go_wp2_with fail
        go_meet
        case rel => exact ⟨wA.heap.size, rfl, rfl, D9, BX2.trans (B9.mono BX2.size), Nat.le_trans BX2.size hD8⟩
    · refine step_val (.pointer (some ⟨WX.heap.size, 0, none⟩)) (WX.alloc (.cells #[.int .i64 0, .int .i64 0, .int .i64 0, .int .i64 0] 25)) (by rfl) (by go_simp) ?_
      have D8 := C4.new WX 25 (.int .i64 0) (.int .i64 0) (.int .i64 0) (.int .i64 0)
      have hD8 : WX.heap.size ≤ WX.heap.size := hH.size
      simp only [Act.put, List.setIfInBounds_toArray, List.set_cons_zero, List.set_cons_succ]
      refine hK.out _ _ (hH.trans (alloc_b.mono hH.size)) (fun hH' => ?_)
      clear hK K
      replace hH := hH'
      clear hH' 
      generalize WX.alloc (.cells #[.int .i64 0, .int .i64 0, .int .i64 0, .int .i64 0] 25) = wN at D8 hH ⊢
      refine wpAnyH_ready (rs := [1]) (by kernel_rfl) (by simp) ?_
      refine (AllReadyH.cons (o := { dst := some 26, op := Op.call { callee := Callee.value (Operand.func 25), args := #[Operand.tmp 25], argTypes := #[40] }, type := 43, pos := "exact.go:5280", after := #[{ on := 0, ground := Ground.data }], guard := none }) rfl (fun K hK => ?_) AllReadyH.nil)
      refine step_callC 25 #[.agg #[.int .i64 tw, .int .i64 th, .int .i64 tf, .slice ad n cp]] (fun z v w' => ∃ g, z = .agg #[.int .i64 tw, .int .i64 th, .int .i64 tf, .slice (some ⟨g, 0, none⟩) n n] ∧ v.heap.size ≤ g ∧ (∃ p, Cp g n n F p w') ∧ Below v.heap.size v w') (by rfl) (by go_simp) ((HT.out _ (BX.trans (hH.mono BX.size))).mono fun e w' ⟨g, h1, h2, h3, h4⟩ => ⟨_, h1, g, rfl, h2, h3, h4⟩) ?_
      rintro z8 wA ⟨g8, rfl, _, ⟨p8, P8⟩, B8⟩
      replace D8 := D8.next B8
      simp only [Act.put, List.setIfInBounds_toArray, List.set_cons_zero, List.set_cons_succ]
      refine hK.out _ _ (hH.trans (B8.mono hH.size)) (fun hH' => ?_)
      clear hK K
      replace hH := hH'
      clear hH' 
      clear B8
      refine wpAnyH_ready (rs := [7]) (by kernel_rfl) (by simp) ?_
      refine (AllReadyH.cons (o := { dst := some 32, op := Op.call { callee := Callee.value (Operand.func 12), args := #[Operand.tmp 31], argTypes := #[23] }, type := 25, pos := "exact.go:5280", after := #[{ on := 6, ground := Ground.data }, { on := 1, ground := Ground.chain }], guard := none }) rfl (fun K hK => ?_) AllReadyH.nil)
      refine step_callC 12 #[.agg #[.int .i64 kr, .int .i64 kg, .int .i64 kb, .int .i64 ka]] (fun z v w' => z = .agg #[.int .i64 kr, .int .i64 kg, .int .i64 kb, .int .i64 ka] ∧ Below v.heap.size v w') (by rfl) (by go_simp) ((toK kr kg kb ka _).mono fun e w' ⟨h1, h2⟩ => ⟨_, h1, rfl, h2⟩) ?_
      rintro z9 wB ⟨rfl, B9⟩
      replace P8 := P8.next B9
      replace D8 := D8.next B9
      simp only [Act.put, List.setIfInBounds_toArray, List.set_cons_zero, List.set_cons_succ]
      refine hK.out _ _ (hH.trans (B9.mono hH.size)) (fun hH' => ?_)
      clear hK K
      replace hH := hH'
      clear hH' 
      clear B9
      refine wpAnyH_ready (rs := [8]) (by kernel_rfl) (by simp) ?_
      refine (AllReadyH.cons (o := { dst := some 33, op := Op.call { callee := Callee.value (Operand.func 40), args := #[Operand.tmp 26, Operand.tmp 27, Operand.tmp 28, Operand.tmp 29, Operand.tmp 30, Operand.tmp 32], argTypes := #[43, 3, 3, 3, 3, 25] }, type := 33, pos := "exact.go:5280", after := #[{ on := 1, ground := Ground.data }, { on := 2, ground := Ground.data }, { on := 3, ground := Ground.data }, { on := 4, ground := Ground.data }, { on := 5, ground := Ground.data }, { on := 7, ground := Ground.data }, { on := 7, ground := Ground.chain }], guard := none }) rfl (fun K hK => ?_) AllReadyH.nil)
      refine step_callC 40 #[.agg #[.int .i64 tw, .int .i64 th, .int .i64 tf, .slice (some ⟨g8, 0, none⟩) n n], .int .i64 a1, .int .i64 a2, .int .i64 a3, .int .i64 a4, .agg #[.int .i64 kr, .int .i64 kg, .int .i64 kb, .int .i64 ka]] (fun z v w' => z = .tuple #[.agg #[.int .i64 q.r, .int .i64 q.g, .int .i64 q.b, .int .i64 q.a], .bool GB] ∧ Below v.heap.size v w') (by rfl) (by go_simp) ((HM.out _ _ P8.rows).mono fun e w' ⟨h1, h2⟩ => ⟨_, h1, rfl, h2⟩) ?_
      rintro z7 wC ⟨rfl, B7⟩
      replace P8 := P8.next B7
      replace D8 := D8.next B7
      simp only [Act.put, List.setIfInBounds_toArray, List.set_cons_zero, List.set_cons_succ]
      refine hK.out _ _ (hH.trans (B7.mono hH.size)) (fun hH' => ?_)
      clear hK K
      replace hH := hH'
      clear hH' 
      clear B7
      refine wpAnyH_take (i := 9) (oi := { dst := some 24, op := Op.move (Operand.tmp 33), type := 33, pos := "exact.go:5280", after := #[{ on := 8, ground := Ground.data }], guard := none }) (v := .tuple #[.agg #[.int .i64 q.r, .int .i64 q.g, .int .i64 q.b, .int .i64 q.a], .bool GB]) rfl (by kernel_rfl) (by kernel_rfl) (by kernel_rfl) (fun _ _ _ h => h) (Or.inl ⟨by rfl, fun w0 hSw => by (go_simp)⟩) hH ?_
      simp only [Act.put, List.setIfInBounds_toArray, List.set_cons_zero, List.set_cons_succ]
      refine wpAnyH_take (i := 10) (oi := { dst := some 34, op := Op.extract (Operand.tmp 24) 0, type := 25, pos := "exact.go:5280", after := #[{ on := 9, ground := Ground.data }], guard := none }) (v := .agg #[.int .i64 q.r, .int .i64 q.g, .int .i64 q.b, .int .i64 q.a]) rfl (by kernel_rfl) (by kernel_rfl) (by kernel_rfl) (fun _ _ _ h => h) (Or.inl ⟨by rfl, fun w0 hSw => by (go_simp)⟩) hH ?_
      simp only [Act.put, List.setIfInBounds_toArray, List.set_cons_zero, List.set_cons_succ]
      refine wpAnyH_take (i := 11) (oi := { dst := some 35, op := Op.extract (Operand.tmp 24) 1, type := 4, pos := "exact.go:5280", after := #[{ on := 9, ground := Ground.data }, { on := 13, ground := Ground.gcOnly Departure.lateStores }], guard := none }) (v := .bool GB) rfl (by kernel_rfl) (by kernel_rfl) (by kernel_rfl) (fun _ _ _ h => h) (Or.inl ⟨by rfl, fun w0 hSw => by (go_simp)⟩) hH ?_
      simp only [Act.put, List.setIfInBounds_toArray, List.set_cons_zero, List.set_cons_succ]
      refine wpAnyH_ready (rs := [13]) (by kernel_rfl) (by simp) ?_
      refine (AllReadyH.cons (o := { dst := none, op := Op.store 25 (Operand.tmp 14) (Operand.tmp 34), type := 0, pos := "exact.go:5280", after := #[{ on := 12, ground := Ground.data }, { on := 10, ground := Ground.data }, { on := 8, ground := Ground.chain }, { on := 0, ground := Ground.phase }, { on := 1, ground := Ground.phase }, { on := 2, ground := Ground.phase }, { on := 3, ground := Ground.phase }, { on := 4, ground := Ground.phase }, { on := 5, ground := Ground.phase }, { on := 6, ground := Ground.phase }, { on := 7, ground := Ground.phase }, { on := 8, ground := Ground.phase }, { on := 9, ground := Ground.phase }, { on := 10, ground := Ground.phase }, { on := 11, ground := Ground.textOnly Departure.lateStores }, { on := 12, ground := Ground.phase }], guard := none }) rfl (fun K hK => ?_) AllReadyH.nil)
      have s0 := D8.c0
      have s1 := D8.c1
      have s2 := D8.c2
      have s3 := D8.c3
      have sf := D8.f
      refine step_skip (set4 wC (WX.heap.size) (.int .i64 q.r) (.int .i64 q.g) (.int .i64 q.b) (.int .i64 q.a)) (by rfl) (by unfold set4; go_simp) ?_
      have D9 := D8.put (.int .i64 q.r) (.int .i64 q.g) (.int .i64 q.b) (.int .i64 q.a)
      have B9 : Below WX.heap.size WX (set4 wC (WX.heap.size) (.int .i64 q.r) (.int .i64 q.g) (.int .i64 q.b) (.int .i64 q.a)) := hH.trans ((only_set4 wC (WX.heap.size) (.int .i64 q.r) (.int .i64 q.g) (.int .i64 q.b) (.int .i64 q.a)).below hD8 hH.size)
      refine hK.out _ _ B9 (fun hH' => ?_)
      clear hK K
      replace hH := hH'
      clear hH' s0 s1 s2 s3 sf D8
      refine wpAnyH_take (i := 14) (oi := { dst := some 15, op := Op.assign (Operand.tmp 35), type := 4, pos := "exact.go:5280", after := #[{ on := 11, ground := Ground.data }, { on := 13, ground := Ground.chain }, { on := 0, ground := Ground.phase }, { on := 1, ground := Ground.phase }, { on := 2, ground := Ground.phase }, { on := 3, ground := Ground.phase }, { on := 4, ground := Ground.phase }, { on := 5, ground := Ground.phase }, { on := 6, ground := Ground.phase }, { on := 7, ground := Ground.phase }, { on := 8, ground := Ground.phase }, { on := 9, ground := Ground.phase }, { on := 10, ground := Ground.phase }, { on := 11, ground := Ground.phase }, { on := 12, ground := Ground.phase }, { on := 13, ground := Ground.phase }], guard := none }) (v := .bool GB) rfl (by kernel_rfl) (by kernel_rfl) (by kernel_rfl) (fun _ _ _ h => h) (Or.inl ⟨by rfl, fun w0 hSw => by (go_simp)⟩) hH ?_
      simp only [Act.put, List.setIfInBounds_toArray, List.set_cons_zero, List.set_cons_succ]
      refine wpAnyH_done (by kernel_rfl) ?_ _
      go_wp2_with fail
      go_meet
      case rel => exact ⟨WX.heap.size, rfl, rfl, D9, BX2.trans (B9.mono BX2.size), Nat.le_trans BX2.size hD8⟩
  case rest =>
    obtain ⟨ab, rfl, rfl, D5, B5, hab⟩ := hcut
    have BX5 := BX.trans (B5.mono BX.size)
    have TA := TA.next B5
    have KA := KA.next B5
    (have q0 := TA.c0)
    (have q1 := TA.c1)
    (have q2 := TA.c2)
    (have q3 := TA.c3)
    (have qh := TA.hi)
    generalize hwc : wc = w5 at *
    clear hwc B5 BX
    go_upto_region 7 with (go_at_call 25; refine (HT.out w5 BX5).mono ?_; rintro e w6 ⟨g6, rfl, hg6, ⟨p6, P6⟩, B6⟩; skip)
    have XA := C4.new w6 43 (.int .i64 tw) (.int .i64 th) (.int .i64 tf) (.slice (some ⟨g6, 0, none⟩) n n)
    have PX := P6.next (alloc_b (o := (.cells #[.int .i64 tw, .int .i64 th, .int .i64 tf, .slice (some ⟨g6, 0, none⟩) n n] 43)))
    have TA := (TA.next B6).next (alloc_b (o := (.cells #[.int .i64 tw, .int .i64 th, .int .i64 tf, .slice (some ⟨g6, 0, none⟩) n n] 43)))
    have KA := (KA.next B6).next (alloc_b (o := (.cells #[.int .i64 tw, .int .i64 th, .int .i64 tf, .slice (some ⟨g6, 0, none⟩) n n] 43)))
    have D5 := (D5.next B6).next (alloc_b (o := (.cells #[.int .i64 tw, .int .i64 th, .int .i64 tf, .slice (some ⟨g6, 0, none⟩) n n] 43)))
    have BX6 := BX5.trans (B6.mono BX5.size)
    have BX := BX6.alloc BX6.size (.cells #[.int .i64 tw, .int .i64 th, .int .i64 tf, .slice (some ⟨g6, 0, none⟩) n n] 43)
    obtain ⟨xb, hxb⟩ : ∃ xb, w6.heap.size = xb := ⟨_, rfl⟩
    rw [hxb] at XA ⊢
    generalize w6.alloc (.cells #[.int .i64 tw, .int .i64 th, .int .i64 tf, .slice (some ⟨g6, 0, none⟩) n n] 43) = w7 at XA PX TA KA D5 BX ⊢
    clear q0 q1 q2 q3 qh P6 B6 BX5 BX6 hxb hg6
    have HXR : Hid (∀ w', Below w7.heap.size w7 w' → BRows w' (.slice (some ⟨g6, 0, none⟩) n n) n F) := fun w' b => (PX.next b).rows
    go_cut [17, 18] (fun pv bv wx => ∃ ab : Nat, pv = .pointer (some ⟨ab, 0, none⟩) ∧ bv = .bool GB ∧ C4 wx ab (.int .i64 q.r) (.int .i64 q.g) (.int .i64 q.b) (.int .i64 q.a) ∧ Below w7.heap.size w7 wx ∧ w7.heap.size ≤ ab)
    case first =>
      have HXR : Hid (∀ w', Below w7.drew.heap.size w7.drew w' → BRows w' (.slice (some ⟨g6, 0, none⟩) n n) n F) := fun w' b => HXR.out w' ((below_drew (Below.refl _ _)).trans b)
      generalize hWW : w7.drew = WX
      have TA := TA.next (below_drew (Below.refl _ _))
      have KA := KA.next (below_drew (Below.refl _ _))
      have XA := XA.next (below_drew (Below.refl _ _))
      have BX := below_drew BX
      have BX2 : Below w7.heap.size w7 w7.drew := below_drew (Below.refl _ _)
      rw [hWW] at HXR TA KA XA BX BX2
      refine wp_region_held_drew (S := fun v => Below WX.heap.size WX v) (by kernel_rfl) (by rw [hWW]; exact Below.refl _ _) (fun hH => ?_)
      rw [hWW] at hH ⊢
      clear hWW
      refine wpAnyH_take (i := 0) (oi := { dst := some 39, op := Op.load 43 (Operand.tmp 16), type := 43, pos := "exact.go:5282", after := #[], guard := none }) (v := .agg #[.int .i64 tw, .int .i64 th, .int .i64 tf, .slice (some ⟨g6, 0, none⟩) n n]) rfl (by kernel_rfl) (by kernel_rfl) (by kernel_rfl) (fun _ _ _ h => h) (Or.inl ⟨by rfl, fun w0 hSw => by ((have e0 := cell_nx XA.c0 hSw); (have e1 := cell_nx XA.c1 hSw); (have e2 := cell_nx XA.c2 hSw); (have e3 := cell_nx XA.c3 hSw); go_simp)⟩) hH ?_
      simp only [Act.put, List.setIfInBounds_toArray, List.set_cons_zero, List.set_cons_succ]
      refine wpAnyH_take (i := 1) (oi := { dst := some 40, op := Op.move (Operand.tmp 1), type := 3, pos := "exact.go:5282", after := #[], guard := none }) (v := .int .i64 a1) rfl (by kernel_rfl) (by kernel_rfl) (by kernel_rfl) (fun _ _ _ h => h) (Or.inl ⟨by rfl, fun w0 hSw => by (go_simp)⟩) hH ?_
      simp only [Act.put, List.setIfInBounds_toArray, List.set_cons_zero, List.set_cons_succ]
      refine wpAnyH_take (i := 2) (oi := { dst := some 41, op := Op.move (Operand.tmp 2), type := 3, pos := "exact.go:5282", after := #[], guard := none }) (v := .int .i64 a2) rfl (by kernel_rfl) (by kernel_rfl) (by kernel_rfl) (fun _ _ _ h => h) (Or.inl ⟨by rfl, fun w0 hSw => by (go_simp)⟩) hH ?_
      simp only [Act.put, List.setIfInBounds_toArray, List.set_cons_zero, List.set_cons_succ]
      refine wpAnyH_take (i := 3) (oi := { dst := some 42, op := Op.move (Operand.tmp 3), type := 3, pos := "exact.go:5282", after := #[], guard := none }) (v := .int .i64 a3) rfl (by kernel_rfl) (by kernel_rfl) (by kernel_rfl) (fun _ _ _ h => h) (Or.inl ⟨by rfl, fun w0 hSw => by (go_simp)⟩) hH ?_
      simp only [Act.put, List.setIfInBounds_toArray, List.set_cons_zero, List.set_cons_succ]
      refine wpAnyH_take (i := 4) (oi := { dst := some 43, op := Op.move (Operand.tmp 4), type := 3, pos := "exact.go:5282", after := #[], guard := none }) (v := .int .i64 a4) rfl (by kernel_rfl) (by kernel_rfl) (by kernel_rfl) (fun _ _ _ h => h) (Or.inl ⟨by rfl, fun w0 hSw => by (go_simp)⟩) hH ?_
      simp only [Act.put, List.setIfInBounds_toArray, List.set_cons_zero, List.set_cons_succ]
      refine wpAnyH_take (i := 5) (oi := { dst := some 44, op := Op.load 23 (Operand.tmp 11), type := 23, pos := "exact.go:5282", after := #[], guard := none }) (v := .agg #[.int .i64 kr, .int .i64 kg, .int .i64 kb, .int .i64 ka]) rfl (by kernel_rfl) (by kernel_rfl) (by kernel_rfl) (fun _ _ _ h => h) (Or.inl ⟨by rfl, fun w0 hSw => by ((have e0 := cell_nx KA.c0 hSw); (have e1 := cell_nx KA.c1 hSw); (have e2 := cell_nx KA.c2 hSw); (have e3 := cell_nx KA.c3 hSw); go_simp)⟩) hH ?_
      simp only [Act.put, List.setIfInBounds_toArray, List.set_cons_zero, List.set_cons_succ]
      refine wpAnyH_ready (rs := [6, 11]) (by kernel_rfl) (by simp) ?_
      refine (AllReadyH.cons (o := { dst := some 45, op := Op.call { callee := Callee.value (Operand.func 12), args := #[Operand.tmp 44], argTypes := #[23] }, type := 25, pos := "exact.go:5282", after := #[{ on := 5, ground := Ground.data }], guard := none }) rfl (fun K hK => ?_) (AllReadyH.cons (o := { dst := some 17, op := Op.alloc 25, type := 0, pos := "exact.go:5282", after := #[], guard := none }) rfl (fun K hK => ?_) AllReadyH.nil))
      · refine step_callC 12 #[.agg #[.int .i64 kr, .int .i64 kg, .int .i64 kb, .int .i64 ka]] (fun z v w' => z = .agg #[.int .i64 kr, .int .i64 kg, .int .i64 kb, .int .i64 ka] ∧ Below v.heap.size v w') (by rfl) (by go_simp) ((toK kr kg kb ka _).mono fun e w' ⟨h1, h2⟩ => ⟨_, h1, rfl, h2⟩) ?_
        rintro z9 wB ⟨rfl, B9⟩
        simp only [Act.put, List.setIfInBounds_toArray, List.set_cons_zero, List.set_cons_succ]
        refine hK.out _ _ (hH.trans (B9.mono hH.size)) (fun hH' => ?_)
        clear hK K
        replace hH := hH'
        clear hH' 
        clear B9
        refine wpAnyH_ready (rs := [7, 11]) (by kernel_rfl) (by simp) ?_
        refine (AllReadyH.cons (o := { dst := some 46, op := Op.call { callee := Callee.value (Operand.func 41), args := #[Operand.tmp 39, Operand.tmp 40, Operand.tmp 41, Operand.tmp 42, Operand.tmp 43, Operand.tmp 45], argTypes := #[43, 3, 3, 3, 3, 25] }, type := 33, pos := "exact.go:5282", after := #[{ on := 0, ground := Ground.data }, { on := 1, ground := Ground.data }, { on := 2, ground := Ground.data }, { on := 3, ground := Ground.data }, { on := 4, ground := Ground.data }, { on := 6, ground := Ground.data }, { on := 6, ground := Ground.chain }], guard := none }) rfl (fun K hK => ?_) (AllReadyH.cons (o := { dst := some 17, op := Op.alloc 25, type := 0, pos := "exact.go:5282", after := #[], guard := none }) rfl (fun K hK => ?_) AllReadyH.nil))
        · refine step_callC 41 #[.agg #[.int .i64 tw, .int .i64 th, .int .i64 tf, .slice (some ⟨g6, 0, none⟩) n n], .int .i64 a1, .int .i64 a2, .int .i64 a3, .int .i64 a4, .agg #[.int .i64 kr, .int .i64 kg, .int .i64 kb, .int .i64 ka]] (fun z v w' => z = .tuple #[.agg #[.int .i64 q.r, .int .i64 q.g, .int .i64 q.b, .int .i64 q.a], .bool GB] ∧ Below v.heap.size v w') (by rfl) (by go_simp) ((HP.out _ _ (HXR.out _ hH)).mono fun e w' ⟨h1, h2⟩ => ⟨_, h1, rfl, h2⟩) ?_
          rintro z7 wC ⟨rfl, B7⟩
          simp only [Act.put, List.setIfInBounds_toArray, List.set_cons_zero, List.set_cons_succ]
          refine hK.out _ _ (hH.trans (B7.mono hH.size)) (fun hH' => ?_)
          clear hK K
          replace hH := hH'
          clear hH' 
          clear B7
          refine wpAnyH_take (i := 8) (oi := { dst := some 38, op := Op.move (Operand.tmp 46), type := 33, pos := "exact.go:5282", after := #[{ on := 7, ground := Ground.data }], guard := none }) (v := .tuple #[.agg #[.int .i64 q.r, .int .i64 q.g, .int .i64 q.b, .int .i64 q.a], .bool GB]) rfl (by kernel_rfl) (by kernel_rfl) (by kernel_rfl) (fun _ _ _ h => h) (Or.inl ⟨by rfl, fun w0 hSw => by (go_simp)⟩) hH ?_
          simp only [Act.put, List.setIfInBounds_toArray, List.set_cons_zero, List.set_cons_succ]
          refine wpAnyH_take (i := 9) (oi := { dst := some 47, op := Op.extract (Operand.tmp 38) 0, type := 25, pos := "exact.go:5282", after := #[{ on := 8, ground := Ground.data }], guard := none }) (v := .agg #[.int .i64 q.r, .int .i64 q.g, .int .i64 q.b, .int .i64 q.a]) rfl (by kernel_rfl) (by kernel_rfl) (by kernel_rfl) (fun _ _ _ h => h) (Or.inl ⟨by rfl, fun w0 hSw => by (go_simp)⟩) hH ?_
          simp only [Act.put, List.setIfInBounds_toArray, List.set_cons_zero, List.set_cons_succ]
          refine wpAnyH_take (i := 10) (oi := { dst := some 48, op := Op.extract (Operand.tmp 38) 1, type := 4, pos := "exact.go:5282", after := #[{ on := 8, ground := Ground.data }, { on := 12, ground := Ground.gcOnly Departure.lateStores }], guard := none }) (v := .bool GB) rfl (by kernel_rfl) (by kernel_rfl) (by kernel_rfl) (fun _ _ _ h => h) (Or.inl ⟨by rfl, fun w0 hSw => by (go_simp)⟩) hH ?_
          simp only [Act.put, List.setIfInBounds_toArray, List.set_cons_zero, List.set_cons_succ]
          refine wpAnyH_ready (rs := [11]) (by kernel_rfl) (by simp) ?_
          refine (AllReadyH.cons (o := { dst := some 17, op := Op.alloc 25, type := 0, pos := "exact.go:5282", after := #[], guard := none }) rfl (fun K hK => ?_) AllReadyH.nil)
          refine step_val (.pointer (some ⟨wC.heap.size, 0, none⟩)) (wC.alloc (.cells #[.int .i64 0, .int .i64 0, .int .i64 0, .int .i64 0] 25)) (by rfl) (by go_simp) ?_
          have D8 := C4.new wC 25 (.int .i64 0) (.int .i64 0) (.int .i64 0) (.int .i64 0)
          have hD8 : WX.heap.size ≤ wC.heap.size := hH.size
          simp only [Act.put, List.setIfInBounds_toArray, List.set_cons_zero, List.set_cons_succ]
          refine hK.out _ _ (hH.trans (alloc_b.mono hH.size)) (fun hH' => ?_)
          clear hK K
          replace hH := hH'
          clear hH' 
          generalize wC.alloc (.cells #[.int .i64 0, .int .i64 0, .int .i64 0, .int .i64 0] 25) = wN at D8 hH ⊢
          refine wpAnyH_ready (rs := [12]) (by kernel_rfl) (by simp) ?_
          refine (AllReadyH.cons (o := { dst := none, op := Op.store 25 (Operand.tmp 17) (Operand.tmp 47), type := 0, pos := "exact.go:5282", after := #[{ on := 11, ground := Ground.data }, { on := 9, ground := Ground.data }, { on := 7, ground := Ground.chain }, { on := 0, ground := Ground.phase }, { on := 1, ground := Ground.phase }, { on := 2, ground := Ground.phase }, { on := 3, ground := Ground.phase }, { on := 4, ground := Ground.phase }, { on := 5, ground := Ground.phase }, { on := 6, ground := Ground.phase }, { on := 7, ground := Ground.phase }, { on := 8, ground := Ground.phase }, { on := 9, ground := Ground.phase }, { on := 10, ground := Ground.textOnly Departure.lateStores }, { on := 11, ground := Ground.phase }], guard := none }) rfl (fun K hK => ?_) AllReadyH.nil)
          have s0 := D8.c0
          have s1 := D8.c1
          have s2 := D8.c2
          have s3 := D8.c3
          have sf := D8.f
          refine step_skip (set4 wN (wC.heap.size) (.int .i64 q.r) (.int .i64 q.g) (.int .i64 q.b) (.int .i64 q.a)) (by rfl) (by unfold set4; go_simp) ?_
          have D9 := D8.put (.int .i64 q.r) (.int .i64 q.g) (.int .i64 q.b) (.int .i64 q.a)
          have B9 : Below WX.heap.size WX (set4 wN (wC.heap.size) (.int .i64 q.r) (.int .i64 q.g) (.int .i64 q.b) (.int .i64 q.a)) := hH.trans ((only_set4 wN (wC.heap.size) (.int .i64 q.r) (.int .i64 q.g) (.int .i64 q.b) (.int .i64 q.a)).below hD8 hH.size)
          refine hK.out _ _ B9 (fun hH' => ?_)
          clear hK K
          replace hH := hH'
          clear hH' s0 s1 s2 s3 sf D8
          refine wpAnyH_take (i := 13) (oi := { dst := some 18, op := Op.assign (Operand.tmp 48), type := 4, pos := "exact.go:5282", after := #[{ on := 10, ground := Ground.data }, { on := 12, ground := Ground.chain }, { on := 0, ground := Ground.phase }, { on := 1, ground := Ground.phase }, { on := 2, ground := Ground.phase }, { on := 3, ground := Ground.phase }, { on := 4, ground := Ground.phase }, { on := 5, ground := Ground.phase }, { on := 6, ground := Ground.phase }, { on := 7, ground := Ground.phase }, { on := 8, ground := Ground.phase }, { on := 9, ground := Ground.phase }, { on := 10, ground := Ground.phase }, { on := 11, ground := Ground.phase }, { on := 12, ground := Ground.phase }], guard := none }) (v := .bool GB) rfl (by kernel_rfl) (by kernel_rfl) (by kernel_rfl) (fun _ _ _ h => h) (Or.inl ⟨by rfl, fun w0 hSw => by (go_simp)⟩) hH ?_
          simp only [Act.put, List.setIfInBounds_toArray, List.set_cons_zero, List.set_cons_succ]
          refine wpAnyH_done (by kernel_rfl) ?_ _
          go_wp2_with fail
          go_meet
          case rel => exact ⟨wC.heap.size, rfl, rfl, D9, BX2.trans (B9.mono BX2.size), Nat.le_trans BX2.size hD8⟩
        · refine step_val (.pointer (some ⟨wB.heap.size, 0, none⟩)) (wB.alloc (.cells #[.int .i64 0, .int .i64 0, .int .i64 0, .int .i64 0] 25)) (by rfl) (by go_simp) ?_
          have D8 := C4.new wB 25 (.int .i64 0) (.int .i64 0) (.int .i64 0) (.int .i64 0)
          have hD8 : WX.heap.size ≤ wB.heap.size := hH.size
          simp only [Act.put, List.setIfInBounds_toArray, List.set_cons_zero, List.set_cons_succ]
          refine hK.out _ _ (hH.trans (alloc_b.mono hH.size)) (fun hH' => ?_)
          clear hK K
          replace hH := hH'
          clear hH' 
          generalize wB.alloc (.cells #[.int .i64 0, .int .i64 0, .int .i64 0, .int .i64 0] 25) = wN at D8 hH ⊢
          refine wpAnyH_ready (rs := [7]) (by kernel_rfl) (by simp) ?_
          refine (AllReadyH.cons (o := { dst := some 46, op := Op.call { callee := Callee.value (Operand.func 41), args := #[Operand.tmp 39, Operand.tmp 40, Operand.tmp 41, Operand.tmp 42, Operand.tmp 43, Operand.tmp 45], argTypes := #[43, 3, 3, 3, 3, 25] }, type := 33, pos := "exact.go:5282", after := #[{ on := 0, ground := Ground.data }, { on := 1, ground := Ground.data }, { on := 2, ground := Ground.data }, { on := 3, ground := Ground.data }, { on := 4, ground := Ground.data }, { on := 6, ground := Ground.data }, { on := 6, ground := Ground.chain }], guard := none }) rfl (fun K hK => ?_) AllReadyH.nil)
          refine step_callC 41 #[.agg #[.int .i64 tw, .int .i64 th, .int .i64 tf, .slice (some ⟨g6, 0, none⟩) n n], .int .i64 a1, .int .i64 a2, .int .i64 a3, .int .i64 a4, .agg #[.int .i64 kr, .int .i64 kg, .int .i64 kb, .int .i64 ka]] (fun z v w' => z = .tuple #[.agg #[.int .i64 q.r, .int .i64 q.g, .int .i64 q.b, .int .i64 q.a], .bool GB] ∧ Below v.heap.size v w') (by rfl) (by go_simp) ((HP.out _ _ (HXR.out _ hH)).mono fun e w' ⟨h1, h2⟩ => ⟨_, h1, rfl, h2⟩) ?_
          rintro z7 wC ⟨rfl, B7⟩
          replace D8 := D8.next B7
          simp only [Act.put, List.setIfInBounds_toArray, List.set_cons_zero, List.set_cons_succ]
          refine hK.out _ _ (hH.trans (B7.mono hH.size)) (fun hH' => ?_)
          clear hK K
          replace hH := hH'
          clear hH' 
          clear B7
          refine wpAnyH_take (i := 8) (oi := { dst := some 38, op := Op.move (Operand.tmp 46), type := 33, pos := "exact.go:5282", after := #[{ on := 7, ground := Ground.data }], guard := none }) (v := .tuple #[.agg #[.int .i64 q.r, .int .i64 q.g, .int .i64 q.b, .int .i64 q.a], .bool GB]) rfl (by kernel_rfl) (by kernel_rfl) (by kernel_rfl) (fun _ _ _ h => h) (Or.inl ⟨by rfl, fun w0 hSw => by (go_simp)⟩) hH ?_
          simp only [Act.put, List.setIfInBounds_toArray, List.set_cons_zero, List.set_cons_succ]
          refine wpAnyH_take (i := 9) (oi := { dst := some 47, op := Op.extract (Operand.tmp 38) 0, type := 25, pos := "exact.go:5282", after := #[{ on := 8, ground := Ground.data }], guard := none }) (v := .agg #[.int .i64 q.r, .int .i64 q.g, .int .i64 q.b, .int .i64 q.a]) rfl (by kernel_rfl) (by kernel_rfl) (by kernel_rfl) (fun _ _ _ h => h) (Or.inl ⟨by rfl, fun w0 hSw => by (go_simp)⟩) hH ?_
          simp only [Act.put, List.setIfInBounds_toArray, List.set_cons_zero, List.set_cons_succ]
          refine wpAnyH_take (i := 10) (oi := { dst := some 48, op := Op.extract (Operand.tmp 38) 1, type := 4, pos := "exact.go:5282", after := #[{ on := 8, ground := Ground.data }, { on := 12, ground := Ground.gcOnly Departure.lateStores }], guard := none }) (v := .bool GB) rfl (by kernel_rfl) (by kernel_rfl) (by kernel_rfl) (fun _ _ _ h => h) (Or.inl ⟨by rfl, fun w0 hSw => by (go_simp)⟩) hH ?_
          simp only [Act.put, List.setIfInBounds_toArray, List.set_cons_zero, List.set_cons_succ]
          refine wpAnyH_ready (rs := [12]) (by kernel_rfl) (by simp) ?_
          refine (AllReadyH.cons (o := { dst := none, op := Op.store 25 (Operand.tmp 17) (Operand.tmp 47), type := 0, pos := "exact.go:5282", after := #[{ on := 11, ground := Ground.data }, { on := 9, ground := Ground.data }, { on := 7, ground := Ground.chain }, { on := 0, ground := Ground.phase }, { on := 1, ground := Ground.phase }, { on := 2, ground := Ground.phase }, { on := 3, ground := Ground.phase }, { on := 4, ground := Ground.phase }, { on := 5, ground := Ground.phase }, { on := 6, ground := Ground.phase }, { on := 7, ground := Ground.phase }, { on := 8, ground := Ground.phase }, { on := 9, ground := Ground.phase }, { on := 10, ground := Ground.textOnly Departure.lateStores }, { on := 11, ground := Ground.phase }], guard := none }) rfl (fun K hK => ?_) AllReadyH.nil)
          have s0 := D8.c0
          have s1 := D8.c1
          have s2 := D8.c2
          have s3 := D8.c3
          have sf := D8.f
          refine step_skip (set4 wC (wB.heap.size) (.int .i64 q.r) (.int .i64 q.g) (.int .i64 q.b) (.int .i64 q.a)) (by rfl) (by unfold set4; go_simp) ?_
          have D9 := D8.put (.int .i64 q.r) (.int .i64 q.g) (.int .i64 q.b) (.int .i64 q.a)
          have B9 : Below WX.heap.size WX (set4 wC (wB.heap.size) (.int .i64 q.r) (.int .i64 q.g) (.int .i64 q.b) (.int .i64 q.a)) := hH.trans ((only_set4 wC (wB.heap.size) (.int .i64 q.r) (.int .i64 q.g) (.int .i64 q.b) (.int .i64 q.a)).below hD8 hH.size)
          refine hK.out _ _ B9 (fun hH' => ?_)
          clear hK K
          replace hH := hH'
          clear hH' s0 s1 s2 s3 sf D8
          refine wpAnyH_take (i := 13) (oi := { dst := some 18, op := Op.assign (Operand.tmp 48), type := 4, pos := "exact.go:5282", after := #[{ on := 10, ground := Ground.data }, { on := 12, ground := Ground.chain }, { on := 0, ground := Ground.phase }, { on := 1, ground := Ground.phase }, { on := 2, ground := Ground.phase }, { on := 3, ground := Ground.phase }, { on := 4, ground := Ground.phase }, { on := 5, ground := Ground.phase }, { on := 6, ground := Ground.phase }, { on := 7, ground := Ground.phase }, { on := 8, ground := Ground.phase }, { on := 9, ground := Ground.phase }, { on := 10, ground := Ground.phase }, { on := 11, ground := Ground.phase }, { on := 12, ground := Ground.phase }], guard := none }) (v := .bool GB) rfl (by kernel_rfl) (by kernel_rfl) (by kernel_rfl) (fun _ _ _ h => h) (Or.inl ⟨by rfl, fun w0 hSw => by (go_simp)⟩) hH ?_
          simp only [Act.put, List.setIfInBounds_toArray, List.set_cons_zero, List.set_cons_succ]
          refine wpAnyH_done (by kernel_rfl) ?_ _
          go_wp2_with fail
          go_meet
          case rel => exact ⟨wB.heap.size, rfl, rfl, D9, BX2.trans (B9.mono BX2.size), Nat.le_trans BX2.size hD8⟩
      · refine step_val (.pointer (some ⟨WX.heap.size, 0, none⟩)) (WX.alloc (.cells #[.int .i64 0, .int .i64 0, .int .i64 0, .int .i64 0] 25)) (by rfl) (by go_simp) ?_
        have D8 := C4.new WX 25 (.int .i64 0) (.int .i64 0) (.int .i64 0) (.int .i64 0)
        have hD8 : WX.heap.size ≤ WX.heap.size := hH.size
        simp only [Act.put, List.setIfInBounds_toArray, List.set_cons_zero, List.set_cons_succ]
        refine hK.out _ _ (hH.trans (alloc_b.mono hH.size)) (fun hH' => ?_)
        clear hK K
        replace hH := hH'
        clear hH' 
        generalize WX.alloc (.cells #[.int .i64 0, .int .i64 0, .int .i64 0, .int .i64 0] 25) = wN at D8 hH ⊢
        refine wpAnyH_ready (rs := [6]) (by kernel_rfl) (by simp) ?_
        refine (AllReadyH.cons (o := { dst := some 45, op := Op.call { callee := Callee.value (Operand.func 12), args := #[Operand.tmp 44], argTypes := #[23] }, type := 25, pos := "exact.go:5282", after := #[{ on := 5, ground := Ground.data }], guard := none }) rfl (fun K hK => ?_) AllReadyH.nil)
        refine step_callC 12 #[.agg #[.int .i64 kr, .int .i64 kg, .int .i64 kb, .int .i64 ka]] (fun z v w' => z = .agg #[.int .i64 kr, .int .i64 kg, .int .i64 kb, .int .i64 ka] ∧ Below v.heap.size v w') (by rfl) (by go_simp) ((toK kr kg kb ka _).mono fun e w' ⟨h1, h2⟩ => ⟨_, h1, rfl, h2⟩) ?_
        rintro z9 wB ⟨rfl, B9⟩
        replace D8 := D8.next B9
        simp only [Act.put, List.setIfInBounds_toArray, List.set_cons_zero, List.set_cons_succ]
        refine hK.out _ _ (hH.trans (B9.mono hH.size)) (fun hH' => ?_)
        clear hK K
        replace hH := hH'
        clear hH' 
        clear B9
        refine wpAnyH_ready (rs := [7]) (by kernel_rfl) (by simp) ?_
        refine (AllReadyH.cons (o := { dst := some 46, op := Op.call { callee := Callee.value (Operand.func 41), args := #[Operand.tmp 39, Operand.tmp 40, Operand.tmp 41, Operand.tmp 42, Operand.tmp 43, Operand.tmp 45], argTypes := #[43, 3, 3, 3, 3, 25] }, type := 33, pos := "exact.go:5282", after := #[{ on := 0, ground := Ground.data }, { on := 1, ground := Ground.data }, { on := 2, ground := Ground.data }, { on := 3, ground := Ground.data }, { on := 4, ground := Ground.data }, { on := 6, ground := Ground.data }, { on := 6, ground := Ground.chain }], guard := none }) rfl (fun K hK => ?_) AllReadyH.nil)
        refine step_callC 41 #[.agg #[.int .i64 tw, .int .i64 th, .int .i64 tf, .slice (some ⟨g6, 0, none⟩) n n], .int .i64 a1, .int .i64 a2, .int .i64 a3, .int .i64 a4, .agg #[.int .i64 kr, .int .i64 kg, .int .i64 kb, .int .i64 ka]] (fun z v w' => z = .tuple #[.agg #[.int .i64 q.r, .int .i64 q.g, .int .i64 q.b, .int .i64 q.a], .bool GB] ∧ Below v.heap.size v w') (by rfl) (by go_simp) ((HP.out _ _ (HXR.out _ hH)).mono fun e w' ⟨h1, h2⟩ => ⟨_, h1, rfl, h2⟩) ?_
        rintro z7 wC ⟨rfl, B7⟩
        replace D8 := D8.next B7
        simp only [Act.put, List.setIfInBounds_toArray, List.set_cons_zero, List.set_cons_succ]
        refine hK.out _ _ (hH.trans (B7.mono hH.size)) (fun hH' => ?_)
        clear hK K
        replace hH := hH'
        clear hH' 
        clear B7
        refine wpAnyH_take (i := 8) (oi := { dst := some 38, op := Op.move (Operand.tmp 46), type := 33, pos := "exact.go:5282", after := #[{ on := 7, ground := Ground.data }], guard := none }) (v := .tuple #[.agg #[.int .i64 q.r, .int .i64 q.g, .int .i64 q.b, .int .i64 q.a], .bool GB]) rfl (by kernel_rfl) (by kernel_rfl) (by kernel_rfl) (fun _ _ _ h => h) (Or.inl ⟨by rfl, fun w0 hSw => by (go_simp)⟩) hH ?_
        simp only [Act.put, List.setIfInBounds_toArray, List.set_cons_zero, List.set_cons_succ]
        refine wpAnyH_take (i := 9) (oi := { dst := some 47, op := Op.extract (Operand.tmp 38) 0, type := 25, pos := "exact.go:5282", after := #[{ on := 8, ground := Ground.data }], guard := none }) (v := .agg #[.int .i64 q.r, .int .i64 q.g, .int .i64 q.b, .int .i64 q.a]) rfl (by kernel_rfl) (by kernel_rfl) (by kernel_rfl) (fun _ _ _ h => h) (Or.inl ⟨by rfl, fun w0 hSw => by (go_simp)⟩) hH ?_
        simp only [Act.put, List.setIfInBounds_toArray, List.set_cons_zero, List.set_cons_succ]
        refine wpAnyH_take (i := 10) (oi := { dst := some 48, op := Op.extract (Operand.tmp 38) 1, type := 4, pos := "exact.go:5282", after := #[{ on := 8, ground := Ground.data }, { on := 12, ground := Ground.gcOnly Departure.lateStores }], guard := none }) (v := .bool GB) rfl (by kernel_rfl) (by kernel_rfl) (by kernel_rfl) (fun _ _ _ h => h) (Or.inl ⟨by rfl, fun w0 hSw => by (go_simp)⟩) hH ?_
        simp only [Act.put, List.setIfInBounds_toArray, List.set_cons_zero, List.set_cons_succ]
        refine wpAnyH_ready (rs := [12]) (by kernel_rfl) (by simp) ?_
        refine (AllReadyH.cons (o := { dst := none, op := Op.store 25 (Operand.tmp 17) (Operand.tmp 47), type := 0, pos := "exact.go:5282", after := #[{ on := 11, ground := Ground.data }, { on := 9, ground := Ground.data }, { on := 7, ground := Ground.chain }, { on := 0, ground := Ground.phase }, { on := 1, ground := Ground.phase }, { on := 2, ground := Ground.phase }, { on := 3, ground := Ground.phase }, { on := 4, ground := Ground.phase }, { on := 5, ground := Ground.phase }, { on := 6, ground := Ground.phase }, { on := 7, ground := Ground.phase }, { on := 8, ground := Ground.phase }, { on := 9, ground := Ground.phase }, { on := 10, ground := Ground.textOnly Departure.lateStores }, { on := 11, ground := Ground.phase }], guard := none }) rfl (fun K hK => ?_) AllReadyH.nil)
        have s0 := D8.c0
        have s1 := D8.c1
        have s2 := D8.c2
        have s3 := D8.c3
        have sf := D8.f
        refine step_skip (set4 wC (WX.heap.size) (.int .i64 q.r) (.int .i64 q.g) (.int .i64 q.b) (.int .i64 q.a)) (by rfl) (by unfold set4; go_simp) ?_
        have D9 := D8.put (.int .i64 q.r) (.int .i64 q.g) (.int .i64 q.b) (.int .i64 q.a)
        have B9 : Below WX.heap.size WX (set4 wC (WX.heap.size) (.int .i64 q.r) (.int .i64 q.g) (.int .i64 q.b) (.int .i64 q.a)) := hH.trans ((only_set4 wC (WX.heap.size) (.int .i64 q.r) (.int .i64 q.g) (.int .i64 q.b) (.int .i64 q.a)).below hD8 hH.size)
        refine hK.out _ _ B9 (fun hH' => ?_)
        clear hK K
        replace hH := hH'
        clear hH' s0 s1 s2 s3 sf D8
        refine wpAnyH_take (i := 13) (oi := { dst := some 18, op := Op.assign (Operand.tmp 48), type := 4, pos := "exact.go:5282", after := #[{ on := 10, ground := Ground.data }, { on := 12, ground := Ground.chain }, { on := 0, ground := Ground.phase }, { on := 1, ground := Ground.phase }, { on := 2, ground := Ground.phase }, { on := 3, ground := Ground.phase }, { on := 4, ground := Ground.phase }, { on := 5, ground := Ground.phase }, { on := 6, ground := Ground.phase }, { on := 7, ground := Ground.phase }, { on := 8, ground := Ground.phase }, { on := 9, ground := Ground.phase }, { on := 10, ground := Ground.phase }, { on := 11, ground := Ground.phase }, { on := 12, ground := Ground.phase }], guard := none }) (v := .bool GB) rfl (by kernel_rfl) (by kernel_rfl) (by kernel_rfl) (fun _ _ _ h => h) (Or.inl ⟨by rfl, fun w0 hSw => by (go_simp)⟩) hH ?_
        simp only [Act.put, List.setIfInBounds_toArray, List.set_cons_zero, List.set_cons_succ]
        refine wpAnyH_done (by kernel_rfl) ?_ _
        go_wp2_with fail
        go_meet
        case rel => exact ⟨WX.heap.size, rfl, rfl, D9, BX2.trans (B9.mono BX2.size), Nat.le_trans BX2.size hD8⟩
    case rest =>
      obtain ⟨ac, rfl, rfl, D7, B7, hac⟩ := hcut
      have BX := BX.trans (B7.mono BX.size)
      have TA := TA.next B7
      have XA := XA.next B7
      have D5 := D5.next B7
      have PX := PX.next B7
      clear HXR B7 KA hac hab
      generalize hwc : wc = w8 at *
      clear hwc
      (have y0 := D7.c0)
      (have y1 := D7.c1)
      (have y2 := D7.c2)
      (have y3 := D7.c3)
      (have yh := D7.hi)
      (have v0 := D5.c0)
      (have v1 := D5.c1)
      (have v2 := D5.c2)
      (have v3 := D5.c3)
      (have vh := D5.hi)
      cases GB
      all_goals
        go_upto_region 10 with (go_at_call 22; refine (eqK q.r q.g q.b q.a _).mono ?_; rintro e w9 ⟨rfl, B9⟩)
        have BX := BX.trans (B9.mono BX.size)
        have TA := TA.next B9
        have XA := XA.next B9
        have PX := PX.next B9
        clear B9 D7 D5 y0 y1 y2 y3 yh v0 v1 v2 v3 vh
        generalize hWW : w9.drew = WX
        have TA := TA.next (below_drew (Below.refl _ _))
        have XA := XA.next (below_drew (Below.refl _ _))
        have PX := PX.next (below_drew (Below.refl _ _))
        have BX := below_drew BX
        have BX2 : Below w9.heap.size w9 w9.drew := below_drew (Below.refl _ _)
        rw [hWW] at TA XA PX BX BX2
        refine wp_region_held_drew (S := fun v => Below WX.heap.size WX v) (by kernel_rfl) (by rw [hWW]; exact Below.refl _ _) (fun hH => ?_)
        rw [hWW] at hH ⊢
        clear hWW
        refine wpAnyH_take (i := 0) (oi := { dst := some 58, op := Op.load 43 (Operand.tmp 16), type := 43, pos := "exact.go:5286", after := #[], guard := none }) (v := .agg #[.int .i64 tw, .int .i64 th, .int .i64 tf, .slice (some ⟨g6, 0, none⟩) n n]) rfl (by kernel_rfl) (by kernel_rfl) (by kernel_rfl) (fun _ _ _ h => h) (Or.inl ⟨by rfl, fun w0 hSw => by ((have e0 := cell_nx XA.c0 hSw); (have e1 := cell_nx XA.c1 hSw); (have e2 := cell_nx XA.c2 hSw); (have e3 := cell_nx XA.c3 hSw); go_simp)⟩) hH ?_
        simp only [Act.put, List.setIfInBounds_toArray, List.set_cons_zero, List.set_cons_succ]
        refine wpAnyH_take (i := 1) (oi := { dst := some 59, op := Op.load 40 (Operand.tmp 6), type := 40, pos := "exact.go:5286", after := #[], guard := none }) (v := .agg #[.int .i64 tw, .int .i64 th, .int .i64 tf, .slice ad n cp]) rfl (by kernel_rfl) (by kernel_rfl) (by kernel_rfl) (fun _ _ _ h => h) (Or.inl ⟨by rfl, fun w0 hSw => by ((have e0 := cell_nx TA.c0 hSw); (have e1 := cell_nx TA.c1 hSw); (have e2 := cell_nx TA.c2 hSw); (have e3 := cell_nx TA.c3 hSw); go_simp)⟩) hH ?_
        simp only [Act.put, List.setIfInBounds_toArray, List.set_cons_zero, List.set_cons_succ]
        refine wpAnyH_ready (rs := [2]) (by kernel_rfl) (by simp) ?_
        refine (AllReadyH.cons (o := { dst := some 60, op := Op.call { callee := Callee.value (Operand.func 25), args := #[Operand.tmp 59], argTypes := #[40] }, type := 43, pos := "exact.go:5286", after := #[{ on := 1, ground := Ground.data }], guard := none }) rfl (fun K hK => ?_) AllReadyH.nil)
        refine step_callC 25 #[.agg #[.int .i64 tw, .int .i64 th, .int .i64 tf, .slice ad n cp]] (fun z v w' => ∃ g, z = .agg #[.int .i64 tw, .int .i64 th, .int .i64 tf, .slice (some ⟨g, 0, none⟩) n n] ∧ v.heap.size ≤ g ∧ (∃ p, Cp g n n F p w') ∧ Below v.heap.size v w') (by rfl) (by go_simp) ((HT.out _ (BX.trans (hH.mono BX.size))).mono fun e w' ⟨g, h1, h2, h3, h4⟩ => ⟨_, h1, g, rfl, h2, h3, h4⟩) ?_
        rintro z8 w8 ⟨g8, rfl, _, ⟨p8, P8⟩, B8⟩
        simp only [Act.put, List.setIfInBounds_toArray, List.set_cons_zero, List.set_cons_succ]
        refine hK.out _ _ (hH.trans (B8.mono hH.size)) (fun hH' => ?_)
        clear hK K
        have P6 := PX.next (hH.trans (B8.mono hH.size))
        replace hH := hH'
        clear hH' 
        refine wpAnyH_ready (rs := [3]) (by kernel_rfl) (by simp) ?_
        refine (AllReadyH.cons (o := { dst := some 61, op := Op.call { callee := Callee.value (Operand.func 27), args := #[Operand.tmp 58, Operand.tmp 60], argTypes := #[43, 43] }, type := 4, pos := "exact.go:5286", after := #[{ on := 0, ground := Ground.data }, { on := 2, ground := Ground.data }, { on := 2, ground := Ground.chain }], guard := none }) rfl (fun K hK => ?_) AllReadyH.nil)
        refine step_callC 27 #[.agg #[.int .i64 tw, .int .i64 th, .int .i64 tf, .slice (some ⟨g6, 0, none⟩) n n], .agg #[.int .i64 tw, .int .i64 th, .int .i64 tf, .slice (some ⟨g8, 0, none⟩) n n]] (fun z v w' => z = .bool true ∧ Below v.heap.size v w') (by rfl) (by go_simp) ((eqX tw th tf n F _ g6 g8 p6 p8 P6 P8 hn HL.out).mono fun e w' ⟨h1, h2⟩ => ⟨_, h1, rfl, h2⟩) ?_
        rintro z9 w9 ⟨rfl, B9⟩
        simp only [Act.put, List.setIfInBounds_toArray, List.set_cons_zero, List.set_cons_succ]
        refine hK.out _ _ (hH.trans (B9.mono hH.size)) (fun hH' => ?_)
        clear hK K
        replace hH := hH'
        clear hH' 
        refine wpAnyH_take (i := 4) (oi := { dst := some 62, op := Op.unOp UnOp.not 4 (Operand.tmp 61), type := 4, pos := "exact.go:5286", after := #[{ on := 3, ground := Ground.data }], guard := none }) (v := .bool false) rfl (by kernel_rfl) (by kernel_rfl) (by kernel_rfl) (fun _ _ _ h => h) (Or.inl ⟨by rfl, fun w0 hSw => by (go_simp)⟩) hH ?_
        simp only [Act.put, List.setIfInBounds_toArray, List.set_cons_zero, List.set_cons_succ]
        refine wpAnyH_done (by kernel_rfl) ?_ _
        go_wp2
        go_ret
        exact ⟨rfl, BX.trans (hH.mono BX.size)⟩

set_option maxRecDepth 100000 in
theorem lifted (os : Os) (started : os.Started) (H : Type) (enc : TypeId × Value → H) :
    ReturnsInHanded {} Try.checked os 10 .any (Rows.fnExactSampleBetweenSpec.pre6 enc Try.prog Try.f10 Rows.fnExactSampleBetweenRow.domain false) (Rows.fnExactSampleBetweenSpec.post enc Try.prog Try.f10 false true false false) := by
  refine returnsInHanded_of_change (C := Try.checked) own started (by kernel_rfl) Try.func10
    (ChangeSpec.witness6 (enc := enc) (C := Try.checked) false ⟨#[], #[.agg #[.int .i64 0, .int .i64 0, .int .i64 0, .slice none 0 0], .int .i64 0, .int .i64 0, .int .i64 0, .int .i64 0, .agg #[.int .i64 0, .int .i64 0, .int .i64 0, .int .i64 0]], []⟩ 8 (by kernel_rfl) (by kernel_rfl) (by kernel_rfl) (by kernel_rfl)) ?_
  intro W base args ds gs before hval0 hW hcnd _
  have hval : ∀ (j : Nat) t v, Try.f10.params[j]? = some t → args[j]? = some v → Value.okWide Try.prog W .any base t v := hval0
  have hW' := hW
  obtain ⟨p, q, hA0, hV, rfl, hfz, hnd⟩ := hW
  have hA : DataW.TrodAll enc Try.prog W 0 (fun _ => true) true Try.f10.params.toList args.toList ds p := hA0
  rw [Try.params10] at hA hval
  obtain ⟨v0, vs0, d0, ds0, p0, q0, hargs, rfl, rfl, h0, r0⟩ := trodAll_cons hA
  obtain ⟨v1, vs1, d1, ds1, p1, q1, rfl, rfl, rfl, h1, r1⟩ := trodAll_cons r0
  obtain ⟨v2, vs2, d2, ds2, p2, q2, rfl, rfl, rfl, h2, r2⟩ := trodAll_cons r1
  obtain ⟨v3, vs3, d3, ds3, p3, q3, rfl, rfl, rfl, h3, r3⟩ := trodAll_cons r2
  obtain ⟨v4, vs4, d4, ds4, p4, q4, rfl, rfl, rfl, h4, r4⟩ := trodAll_cons r3
  obtain ⟨v5, vs5, d5, ds5, p5, q5, rfl, rfl, rfl, h5, r5⟩ := trodAll_cons r4
  obtain ⟨rfl, rfl, rfl⟩ := trodAll_nil r5
  obtain rfl : args = #[v0, v1, v2, v3, v4, v5] := by cases args; simp_all
  obtain ⟨rfl, rfl⟩ := trodVars_none hV
  simp only [List.append_nil] at hW'
  have k0 := h0
  have lt0 : ∀ x ∈ p0, x.block < W.heap.size := fun x hx => by have := hW'.lt x (by simp [hx]); simpa using this
  obtain ⟨tw, th, tf, ad, n, cp, F, rfl, mn, R, mf, bf⟩ := viewX Try.underlying40 (by kernel_rfl) rfl rfl rfl rfl (by kernel_rfl) (by kernel_rfl) (by kernel_rfl) (by kernel_rfl) Try.underlying3 Try.underlying3 Try.underlying3 Try.underlying38 Try.underlying28 Try.underlying5 (by kernel_rfl) (by kernel_rfl) (hval 0 40 v0 rfl rfl) h0
  have arg0 : ∀ (W' : World), Below W.heap.size W W' → DataW.Trod enc Try.prog W' 0 (fun b => decide (b < W.heap.size)) true 40 (.agg #[.int .i64 tw, .int .i64 th, .int .i64 tf, .slice ad n cp]) d0 p0 := fun W' hn => Below.trod laidOut (by kernel_rfl) (of_decide_eq_true (by kernel_rfl)) k0 hn lt0
  obtain ⟨a1, rfl, rfl, rfl, w1⟩ := open_int Try.underlying3 (hval 1 3 v1 rfl rfl) h1
  obtain ⟨a2, rfl, rfl, rfl, w2⟩ := open_int Try.underlying3 (hval 2 3 v2 rfl rfl) h2
  obtain ⟨a3, rfl, rfl, rfl, w3⟩ := open_int Try.underlying3 (hval 3 3 v3 rfl rfl) h3
  obtain ⟨a4, rfl, rfl, rfl, w4⟩ := open_int Try.underlying3 (hval 4 3 v4 rfl rfl) h4
  have k5 := h5
  have lt5 : ∀ x ∈ p5, x.block < W.heap.size := fun x hx => by have := hW'.lt x (by simp [hx]); simpa using this
  obtain ⟨kr, kg, kb, ka, rfl⟩ := viewK Try.underlying23 (by kernel_rfl) rfl rfl rfl rfl (by kernel_rfl) (by kernel_rfl) (by kernel_rfl) (by kernel_rfl) Try.underlying3 Try.underlying3 Try.underlying3 Try.underlying3 (hval 5 23 v5 rfl rfl) h5
  have arg5 : ∀ (W' : World), Below W.heap.size W W' → DataW.Trod enc Try.prog W' 0 (fun b => decide (b < W.heap.size)) true 23 (.agg #[.int .i64 kr, .int .i64 kg, .int .i64 kb, .int .i64 ka]) d5 p5 := fun W' hn => Below.trod laidOut (by kernel_rfl) (of_decide_eq_true (by kernel_rfl)) k5 hn lt5
  clear hA0 hval0
  refine (walk W tw th tf ad n cp F mn R mf bf a1 w1 a2 w2 a3 w3 a4 w4 kr kg kb ka).mono fun e W' ⟨he, hg⟩ => ?_
  subst he
  refine ⟨_, rfl, _, _, _, [], p0 ++ ([] ++ ([] ++ ([] ++ ([] ++ (p5 ++ []))))), [], hW', (trodAll_cons_mk (shut_bool Try.underlying4 _) trodAll_mk0), (trodAll_cons_mk (arg0 _ hg) (trodAll_cons_mk (shut_int Try.underlying3 w1) (trodAll_cons_mk (shut_int Try.underlying3 w2) (trodAll_cons_mk (shut_int Try.underlying3 w3) (trodAll_cons_mk (shut_int Try.underlying3 w4) (trodAll_cons_mk (arg5 _ hg) trodAll_mk0)))))), rfl, hg.frame _, fun h => by cases h⟩
theorem over : Rows.fnExactSampleBetweenRow.holds Try.pinned (OpenSpec.ofChange Rows.fnExactSampleBetweenSpec) :=
  OpenClaim.holds_of_wide 10 Try.f10 rfl rfl rfl rfl rfl rfl rfl ⟨rfl, rfl, rfl, rfl, rfl⟩ rfl rfl rfl rfl rfl (by kernel_rfl) Try.func10 (by kernel_rfl)
    (of_decide_eq_true (by kernel_rfl)) (by unfold Func.isWrapper; first | (rw [if_pos (by decide +kernel)]; kernel_rfl) | (rw [if_neg (by decide +kernel)]; exact ⟨rfl, rfl⟩))
    (fun os started H enc _ => lifted os started H enc)
end Go.Proofs.Ytfhnfgjffekmiaa.fnExactSampleBetween
namespace Go.Proofs.Ytfhnfgjffekmiaa
theorem sampleBetween : Rows.FnExactSampleBetweenSaid := fnExactSampleBetween.over
#print axioms sampleBetween
end Go.Proofs.Ytfhnfgjffekmiaa
