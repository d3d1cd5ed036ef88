/- GoodTexture answers as its model at every texture (sides, format, rows of bytes), and writes into none of it. No conditions. -/
import Derived.Test.YtfhnfgjffekmiaaRows
import Derived.Test.YtfhnfgjffekmiaaAj
namespace Go.Proofs.Ytfhnfgjffekmiaa.fnExactGoodTexture
open Go.ChangeShapes Go.WideShapes Go.ChangeAt Go.RowKit
set_option linter.unusedVariables false
theorem own : ownKnob Try.prog.godebug = none := by kernel_rfl
theorem laidOut : laidOutB Try.prog = true := by kernel_rfl

set_option maxRecDepth 100000 in
set_option maxHeartbeats 8000000 in
theorem walk (w : World) (tw th tf : Int) (ad : Option Addr) (n cp : Nat) (F : Nat → List Int) (mn : n ≤ 9223372036854775807) (R : BRows w (.slice ad n cp) n F) (mf : ∀ i, i < n → (F i).length ≤ 9223372036854775807) (bf : ByF n F) :
    Calls Try.prog 6 #[.agg #[.int .i64 tw, .int .i64 th, .int .i64 tf, .slice ad n cp]] w fun e w' => e = .returned (.bool true) ∧ Below w.heap.size w w' := by
  have BA : Below w.heap.size w (w.alloc (.cells #[.int .i64 tw, .int .i64 th, .int .i64 tf, .slice ad n cp] 40)) := alloc_b
  have CA := C4.new w 40 (.int .i64 tw) (.int .i64 th) (.int .i64 tf) (.slice ad n cp)
  have h28 := szX tw th tf (.slice ad n cp) n F _ (R.next BA) mn mf 1048576 (by decide) (by decide)
  have HRR : Hid (∀ w', Below w.heap.size w w' → BRows w' (.slice ad n cp) n F) := fun w' b => R.next b
  obtain ⟨W1, hW1⟩ : ∃ W, w.alloc (.cells #[.int .i64 tw, .int .i64 th, .int .i64 tf, .slice ad n cp] 40) = W := ⟨_, rfl⟩
  have HCA : Hid (∀ w', Below W1.heap.size W1 w' → C4 w' w.heap.size (.int .i64 tw) (.int .i64 th) (.int .i64 tf) (.slice ad n cp)) := fun w' b => by rw [hW1] at CA; exact CA.next b
  rw [hW1] at BA CA h28
  have HBA := Hid.mk BA
  clear R BA CA
  subst hW1
  go_enter Try.func6, Try.ntmps6
  go_wp2_with (go_at_call 23; refine h28.mono ?_; rintro e w2 ⟨⟨x, rfl, hx⟩, B2⟩; (have C2 := HCA.out w2 B2); (have q0 := C2.c0); (have q1 := C2.c1); (have q2 := C2.c2); (have q3 := C2.c3); (have qh := C2.hi))
  · go_ret
    exact ⟨rfl, HBA.out.trans (B2.mono HBA.out.size)⟩
  rename_i hx0
  have hx2 : (n : Int) + (tot F n : Int) ≤ 1048576 := by rcases hx with h | ⟨h1, h2, h3⟩; omega; omega
  have hn : n ≤ 1048576 := by omega
  have HL : Hid (∀ i, i < n → (F i).length ≤ 1048576) := fun i hi => by have := tot_le F hi; omega
  have B02 : Below w.heap.size w w2 := HBA.out.trans (B2.mono HBA.out.size)
  have HT : Hid (∀ w', Below w.heap.size w w' → Calls Try.prog 25 #[.agg #[.int .i64 tw, .int .i64 th, .int .i64 tf, .slice ad n cp]] w' fun r w'' => ∃ g, r = .returned (.agg #[.int .i64 tw, .int .i64 th, .int .i64 tf, .slice (some ⟨g, 0, none⟩) n n]) ∧ w'.heap.size ≤ g ∧ (∃ p, Cp g n n F p w'') ∧ Below w'.heap.size w' w'') := fun w' b => toX tw th tf _ n F w' (HRR.out w' b) hn HL.out
  have HM : Hid (∀ w' v, BRows w' v n F → Calls Try.prog 24 #[.agg #[.int .i64 tw, .int .i64 th, .int .i64 tf, v]] w' fun e w'' => e = .returned (.bool (gtB tw th tf n F)) ∧ Below w'.heap.size w' w'') := fun w' v r => mgoodT tw th tf v n F w' r hn HL.out
  have HP : Hid (∀ w' v, BRows w' v n F → Calls Try.prog 26 #[.agg #[.int .i64 tw, .int .i64 th, .int .i64 tf, v]] w' fun e w'' => e = .returned (.bool (gtB tw th tf n F)) ∧ Below w'.heap.size w' w'') := fun w' v r => pgoodT tw th tf v n F w' r hn HL.out
  generalize gtB tw th tf n F = GB at HM HP
  clear hx hx2 B2 HBA h28 mn mf HRR HCA bf
  go_wp2_with (first | (go_at_call 25; (with_reducible show Calls Try.prog 25 _ w2 _); refine (HT.out w2 B02).mono ?_; rintro e w3 ⟨g3, rfl, hg3, ⟨p3, P3⟩, B3⟩) | (go_at_call 24; refine (HM.out w3 _ P3.rows).mono ?_; rintro e w4 ⟨rfl, B4⟩; (have CC4 := (C2.next B3).next B4); (have r0 := CC4.c0); (have r1 := CC4.c1); (have r2 := CC4.c2); (have r3 := CC4.c3); (have rh := CC4.hi)))
  have B04 : Below w.heap.size w w4 := (B02.trans (B3.mono B02.size)).trans (B4.mono (Nat.le_trans B02.size B3.size))
  clear P3 B3 B4 B02 C2 q0 q1 q2 q3 qh
  go_wp2_with (first | (go_at_call 25; (with_reducible show Calls Try.prog 25 _ w4 _); refine (HT.out w4 B04).mono ?_; rintro e w5 ⟨g4, rfl, hg4, ⟨p4, P4⟩, B5⟩; skip) | (go_at_call 26; refine (HP.out (w5.alloc (.cells #[.int .i64 tw, .int .i64 th, .int .i64 tf, .slice (some ⟨g4, 0, none⟩) n n] 43)) _ (P4.next alloc_b).rows).mono ?_; rintro e w6 ⟨rfl, B6⟩))
  have D6 := (C4.new w5 43 (.int .i64 tw) (.int .i64 th) (.int .i64 tf) (.slice (some ⟨g4, 0, none⟩) n n)).next B6
  have C6x := ((CC4.next B5).next (alloc_b (o := (.cells #[.int .i64 tw, .int .i64 th, .int .i64 tf, .slice (some ⟨g4, 0, none⟩) n n] 43)))).next B6
  have X6 := (P4.next (alloc_b (o := (.cells #[.int .i64 tw, .int .i64 th, .int .i64 tf, .slice (some ⟨g4, 0, none⟩) n n] 43)))).next B6
  have B05 : Below w.heap.size w (w5.alloc (.cells #[.int .i64 tw, .int .i64 th, .int .i64 tf, .slice (some ⟨g4, 0, none⟩) n n] 43)) := (B04.trans (B5.mono B04.size)).alloc (Nat.le_trans B04.size B5.size) _
  have B06 : Below w.heap.size w w6 := B05.trans (B6.mono B05.size)
  clear P4 B5 B6 B05 CC4 B04 r0 r1 r2 r3 rh
  cases GB
  all_goals
    go_wp2
    generalize hWW : w6.drew = WX
    have D6 := D6.next (below_drew (Below.refl _ _))
    have C6x := C6x.next (below_drew (Below.refl _ _))
    have X6 := X6.next (below_drew (Below.refl _ _))
    have B06 := below_drew B06
    rw [hWW] at D6 C6x X6 B06
    refine wp_region_held_drew (S := fun v => Below WX.heap.size WX v) (by kernel_rfl) (by rw [hWW]; exact Below.refl _ _) (fun hH => ?_)
    rw [hWW] at hH ⊢
    clear hWW
    refine wpAnyH_take (i := 0) (oi := { dst := some 22, op := Op.load 43 (Operand.tmp 5), type := 43, pos := "exact.go:5183", after := #[], guard := none }) (v := .agg #[.int .i64 tw, .int .i64 th, .int .i64 tf, .slice (some ⟨g4, 0, none⟩) n n]) rfl (by kernel_rfl) (by kernel_rfl) (by kernel_rfl) (fun _ _ _ h => h) (Or.inl ⟨by rfl, fun w0 hSw => by ((have e0 := cell_nx D6.c0 hSw); (have e1 := cell_nx D6.c1 hSw); (have e2 := cell_nx D6.c2 hSw); (have e3 := cell_nx D6.c3 hSw); go_simp)⟩) hH ?_
    simp only [Act.put, List.setIfInBounds_toArray, List.set_cons_zero, List.set_cons_succ]
    refine wpAnyH_take (i := 1) (oi := { dst := some 23, op := Op.load 40 (Operand.tmp 1), type := 40, pos := "exact.go:5183", after := #[], guard := none }) (v := .agg #[.int .i64 tw, .int .i64 th, .int .i64 tf, .slice ad n cp]) rfl (by kernel_rfl) (by kernel_rfl) (by kernel_rfl) (fun _ _ _ h => h) (Or.inl ⟨by rfl, fun w0 hSw => by ((have e0 := cell_nx C6x.c0 hSw); (have e1 := cell_nx C6x.c1 hSw); (have e2 := cell_nx C6x.c2 hSw); (have e3 := cell_nx C6x.c3 hSw); go_simp)⟩) hH ?_
    simp only [Act.put, List.setIfInBounds_toArray, List.set_cons_zero, List.set_cons_succ]
    refine wpAnyH_ready (rs := [2]) (by kernel_rfl) (by simp) ?_
    refine (AllReadyH.cons (o := { dst := some 24, op := Op.call { callee := Callee.value (Operand.func 25), args := #[Operand.tmp 23], argTypes := #[40] }, type := 43, pos := "exact.go:5183", after := #[{ on := 1, ground := Ground.data }], guard := none }) rfl (fun K hK => ?_) AllReadyH.nil)
    refine step_callC 25 #[.agg #[.int .i64 tw, .int .i64 th, .int .i64 tf, .slice ad n cp]] (fun z v w' => ∃ g, z = .agg #[.int .i64 tw, .int .i64 th, .int .i64 tf, .slice (some ⟨g, 0, none⟩) n n] ∧ v.heap.size ≤ g ∧ (∃ p, Cp g n n F p w') ∧ Below v.heap.size v w') (by rfl) (by go_simp) ((HT.out _ (B06.trans (hH.mono B06.size))).mono fun e w' ⟨g, h1, h2, h3, h4⟩ => ⟨_, h1, g, rfl, h2, h3, h4⟩) ?_
    rintro z8 w8 ⟨g8, rfl, _, ⟨p8, P8⟩, B8⟩
    simp only [Act.put, List.setIfInBounds_toArray, List.set_cons_zero, List.set_cons_succ]
    refine hK.out _ _ (hH.trans (B8.mono hH.size)) (fun hH' => ?_)
    clear hK K
    have P6 := (X6.next (hH.trans (B8.mono hH.size)))
    replace hH := hH'
    clear hH' 
    refine wpAnyH_ready (rs := [3]) (by kernel_rfl) (by simp) ?_
    refine (AllReadyH.cons (o := { dst := some 25, op := Op.call { callee := Callee.value (Operand.func 27), args := #[Operand.tmp 22, Operand.tmp 24], argTypes := #[43, 43] }, type := 4, pos := "exact.go:5183", after := #[{ on := 0, ground := Ground.data }, { on := 2, ground := Ground.data }, { on := 2, ground := Ground.chain }], guard := none }) rfl (fun K hK => ?_) AllReadyH.nil)
    refine step_callC 27 #[.agg #[.int .i64 tw, .int .i64 th, .int .i64 tf, .slice (some ⟨g4, 0, none⟩) n n], .agg #[.int .i64 tw, .int .i64 th, .int .i64 tf, .slice (some ⟨g8, 0, none⟩) n n]] (fun z v w' => z = .bool true ∧ Below v.heap.size v w') (by rfl) (by go_simp) ((eqX tw th tf n F _ g4 g8 p4 p8 P6 P8 hn HL.out).mono fun e w' ⟨h1, h2⟩ => ⟨_, h1, rfl, h2⟩) ?_
    rintro z9 w9 ⟨rfl, B9⟩
    simp only [Act.put, List.setIfInBounds_toArray, List.set_cons_zero, List.set_cons_succ]
    refine hK.out _ _ (hH.trans (B9.mono hH.size)) (fun hH' => ?_)
    clear hK K
    replace hH := hH'
    clear hH' 
    refine wpAnyH_take (i := 4) (oi := { dst := some 26, op := Op.unOp UnOp.not 4 (Operand.tmp 25), type := 4, pos := "exact.go:5183", after := #[{ on := 3, ground := Ground.data }], guard := none }) (v := .bool false) rfl (by kernel_rfl) (by kernel_rfl) (by kernel_rfl) (fun _ _ _ h => h) (Or.inl ⟨by rfl, fun w0 hSw => by (go_simp)⟩) hH ?_
    simp only [Act.put, List.setIfInBounds_toArray, List.set_cons_zero, List.set_cons_succ]
    refine wpAnyH_done (by kernel_rfl) ?_ _
    go_wp2
    go_ret
    exact ⟨rfl, B06.trans (hH.mono B06.size)⟩

set_option maxRecDepth 100000 in
theorem lifted (os : Os) (started : os.Started) (H : Type) (enc : TypeId × Value → H) :
    ReturnsInHanded {} Try.checked os 6 .any (Rows.fnExactGoodTextureSpec.pre6 enc Try.prog Try.f6 Rows.fnExactGoodTextureRow.domain false) (Rows.fnExactGoodTextureSpec.post enc Try.prog Try.f6 false true false false) := by
  refine returnsInHanded_of_change (C := Try.checked) own started (by kernel_rfl) Try.func6
    (ChangeSpec.witness6 (enc := enc) (C := Try.checked) false ⟨#[], #[.agg #[.int .i64 0, .int .i64 0, .int .i64 0, .slice none 0 0]], []⟩ 8 (by kernel_rfl) (by kernel_rfl) (by kernel_rfl) (by kernel_rfl)) ?_
  intro W base args ds gs before hval0 hW hcnd _
  have hval : ∀ (j : Nat) t v, Try.f6.params[j]? = some t → args[j]? = some v → Value.okWide Try.prog W .any base t v := hval0
  have hW' := hW
  obtain ⟨p, q, hA0, hV, rfl, hfz, hnd⟩ := hW
  have hA : DataW.TrodAll enc Try.prog W 0 (fun _ => true) true Try.f6.params.toList args.toList ds p := hA0
  rw [Try.params6] at hA hval
  obtain ⟨v0, vs0, d0, ds0, p0, q0, hargs, rfl, rfl, h0, r0⟩ := trodAll_cons hA
  obtain ⟨rfl, rfl, rfl⟩ := trodAll_nil r0
  obtain rfl : args = #[v0] := by cases args; simp_all
  obtain ⟨rfl, rfl⟩ := trodVars_none hV
  simp only [List.append_nil] at hW'
  have k0 := h0
  have lt0 : ∀ x ∈ p0, x.block < W.heap.size := fun x hx => by have := hW'.lt x (by simp [hx]); simpa using this
  obtain ⟨tw, th, tf, ad, n, cp, F, rfl, mn, R, mf, bf⟩ := viewX Try.underlying40 (by kernel_rfl) rfl rfl rfl rfl (by kernel_rfl) (by kernel_rfl) (by kernel_rfl) (by kernel_rfl) Try.underlying3 Try.underlying3 Try.underlying3 Try.underlying38 Try.underlying28 Try.underlying5 (by kernel_rfl) (by kernel_rfl) (hval 0 40 v0 rfl rfl) h0
  have arg0 : ∀ (W' : World), Below W.heap.size W W' → DataW.Trod enc Try.prog W' 0 (fun b => decide (b < W.heap.size)) true 40 (.agg #[.int .i64 tw, .int .i64 th, .int .i64 tf, .slice ad n cp]) d0 p0 := fun W' hn => Below.trod laidOut (by kernel_rfl) (of_decide_eq_true (by kernel_rfl)) k0 hn lt0
  clear hA0 hval0
  refine (walk W tw th tf ad n cp F mn R mf bf).mono fun e W' ⟨he, hg⟩ => ?_
  subst he
  refine ⟨_, rfl, _, _, _, [], p0 ++ [], [], hW', (trodAll_cons_mk (shut_bool Try.underlying4 _) trodAll_mk0), (trodAll_cons_mk (arg0 _ hg) trodAll_mk0), rfl, hg.frame _, fun h => by cases h⟩
theorem over : Rows.fnExactGoodTextureRow.holds Try.pinned (OpenSpec.ofChange Rows.fnExactGoodTextureSpec) :=
  OpenClaim.holds_of_wide 6 Try.f6 rfl rfl rfl rfl rfl rfl rfl ⟨rfl, rfl, rfl, rfl, rfl⟩ rfl rfl rfl rfl rfl (by kernel_rfl) Try.func6 (by kernel_rfl)
    (of_decide_eq_true (by kernel_rfl)) (by unfold Func.isWrapper; first | (rw [if_pos (by decide +kernel)]; kernel_rfl) | (rw [if_neg (by decide +kernel)]; exact ⟨rfl, rfl⟩))
    (fun os started H enc _ => lifted os started H enc)
end Go.Proofs.Ytfhnfgjffekmiaa.fnExactGoodTexture
namespace Go.Proofs.Ytfhnfgjffekmiaa
theorem goodTexture : Rows.FnExactGoodTextureSaid := fnExactGoodTexture.over
#print axioms goodTexture
end Go.Proofs.Ytfhnfgjffekmiaa
