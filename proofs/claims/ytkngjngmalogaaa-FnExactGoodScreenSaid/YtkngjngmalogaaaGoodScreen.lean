/- GoodScreen answers as its model at every screen (sides, row of colors, row of depths), and writes into none of it. No conditions. -/
import Derived.Test.YtkngjngmalogaaaRows
import Derived.Test.YtkngjngmalogaaaDc
namespace Go.Proofs.Ytkngjngmalogaaa.fnExactGoodScreen
open Go.ChangeShapes Go.WideShapes Go.ChangeAt Go.RowKit
set_option linter.unusedVariables false
theorem own : ownKnob Try.prog.godebug = none := by kernel_rfl
theorem laidOut : laidOutB Try.prog = true := by kernel_rfl

set_option maxRecDepth 100000 in
set_option maxHeartbeats 8000000 in
theorem walk (w : World) (bw bx : Int) (bu bv : Value) (BL : List Col) (BH : List Int) (bU : KRow w bu BL) (bV : ARow w bv BH) (bl : BL.length ≤ 9223372036854775807) (bh : BH.length ≤ 9223372036854775807) :
    Calls Try.prog 4 #[.agg #[.int .i64 bw, .int .i64 bx, bu, bv]] w fun e w' => e = .returned (.bool true) ∧ Below w.heap.size w w' := by
  have HT0 : Hid (BL.length ≤ 1048576 → BH.length ≤ 1048576 → ∀ w', Below w.heap.size w w' → Calls Try.prog 13 #[.agg #[.int .i64 bw, .int .i64 bx, bu, bv]] w' fun r w'' => ∃ a, r = .returned a ∧ Sk w'' a bw bx BL BH ∧ Below w'.heap.size w' w'') := fun h1 h2 w' b => toScr bw bx bu bv BL BH w' (bU.next b) (bV.next b) h1 h2
  have HS0 : Hid (∀ w', Below w.heap.size w w' → Calls Try.prog 11 #[.agg #[.int .i64 bw, .int .i64 bx, bu, bv], .int .i64 1048576] w' fun r w'' => (∃ x : Int, r = .returned (.int .i64 x) ∧ (x < 0 ∨ 0 ≤ x ∧ x ≤ 1048576 ∧ (BL.length : Int) + (BH.length : Int) + x ≤ 1048576)) ∧ Below w'.heap.size w' w'') := fun w' b => szScr bw bx bu bv BL BH w' (bU.next b) (bV.next b) bl bh 1048576 (by decide) (by decide)
  have HM : Hid (BL.length ≤ 1048576 → BH.length ≤ 1048576 → ∀ w' a, Sk w' a bw bx BL BH → Calls Try.prog 12 #[a] w' fun e w'' => e = .returned (.bool (gsB bw bx BL BH)) ∧ Below w'.heap.size w' w'') := fun h1 h2 w' a k => by obtain ⟨u, v, rfl, U, V⟩ := k.rows; exact mgs bw bx u v BL BH w' U V h1 h2
  have HP : Hid (BL.length ≤ 1048576 → BH.length ≤ 1048576 → ∀ w' a, Sk w' a bw bx BL BH → Calls Try.prog 14 #[a] w' fun e w'' => e = .returned (.bool (gsB bw bx BL BH)) ∧ Below w'.heap.size w' w'') := fun h1 h2 w' a k => by obtain ⟨u, v, rfl, U, V⟩ := k.rows; exact pgs bw bx u v BL BH w' U V h1 h2
  generalize gsB bw bx BL BH = GB at HM HP
  obtain ⟨ad, c, rfl, -⟩ := bU
  obtain ⟨bd, d, rfl, -⟩ := bV
  obtain ⟨n, hn⟩ : ∃ n, BL.length = n := ⟨_, rfl⟩
  obtain ⟨m, hm⟩ : ∃ m, BH.length = m := ⟨_, rfl⟩
  have HN : Hid (BL.length = n ∧ BH.length = m) := ⟨hn, hm⟩
  rw [hn] at HT0 HS0 bl HM HP ⊢
  rw [hm] at HT0 HS0 bh HM HP ⊢
  clear hn hm
  have HBA : Hid (Below w.heap.size w (w.alloc (.cells #[.int .i64 bw, .int .i64 bx, .slice ad n c, .slice bd m d] 37))) := alloc_b
  have HCA : Hid (∀ w', Below (w.alloc (.cells #[.int .i64 bw, .int .i64 bx, .slice ad n c, .slice bd m d] 37)).heap.size (w.alloc (.cells #[.int .i64 bw, .int .i64 bx, .slice ad n c, .slice bd m d] 37)) w' → C4 w' w.heap.size (.int .i64 bw) (.int .i64 bx) (.slice ad n c) (.slice bd m d)) := fun w' b => (C4.new w 37 (.int .i64 bw) (.int .i64 bx) (.slice ad n c) (.slice bd m d)).next b
  go_enter Try.func4, Try.ntmps4
  go_wp2_with (go_at_call 11; refine (HS0.out _ HBA.out).mono ?_; rintro e w2 ⟨⟨x, rfl, hx⟩, B2⟩; (have C2x := HCA.out w2 B2); (have q0 := C2x.c0); (have q1 := C2x.c1); (have q2 := C2x.c2); (have q3 := C2x.c3); (have qh := C2x.hi))
  · go_ret
    exact ⟨rfl, HBA.out.trans (B2.mono HBA.out.size)⟩
  rename_i hx0
  have hx2 : (n : Int) + (m : Int) ≤ 1048576 := by rcases hx with h | ⟨h1, h2, h3⟩; omega; omega
  have HL : Hid (BL.length ≤ 1048576) := by have := HN.out.1; show _ ≤ _; omega
  have HM2 : Hid (BH.length ≤ 1048576) := by have := HN.out.2; show _ ≤ _; omega
  have HT := Hid.mk (HT0.out (by omega) (by omega))
  have HM := Hid.mk (HM.out (by omega) (by omega))
  have HP := Hid.mk (HP.out (by omega) (by omega))
  have B02 : Below w.heap.size w w2 := HBA.out.trans (B2.mono HBA.out.size)
  clear hx hx2 B2 HBA HS0 HT0 bl bh HCA
  go_wp2_with (first | (go_at_call 13; (with_reducible show Calls Try.prog 13 _ w2 _); refine (HT.out w2 B02).mono ?_; rintro e w3 ⟨a3, rfl, P3, B3⟩) | (go_at_call 12; refine (HM.out w3 _ P3).mono ?_; rintro e w4 ⟨rfl, B4⟩; (have CC4 := (C2x.next B3).next B4); (have r0 := CC4.c0); (have r1 := CC4.c1); (have r2 := CC4.c2); (have r3 := CC4.c3); (have rh := CC4.hi)))
  have B04 : Below w.heap.size w w4 := (B02.trans (B3.mono B02.size)).trans (B4.mono (Nat.le_trans B02.size B3.size))
  clear P3 B3 B4 B02 C2x q0 q1 q2 q3 qh
  have HT5 : Hid (Calls Try.prog 13 #[.agg #[.int .i64 bw, .int .i64 bx, .slice ad n c, .slice bd m d]] w4 fun r w'' => ∃ g4 k4, r = .returned (.agg #[.int .i64 bw, .int .i64 bx, .slice (some ⟨g4, 0, none⟩) n n, .slice (some ⟨k4, 0, none⟩) m m]) ∧ Sk w'' (.agg #[.int .i64 bw, .int .i64 bx, .slice (some ⟨g4, 0, none⟩) n n, .slice (some ⟨k4, 0, none⟩) m m]) bw bx BL BH ∧ Below w4.heap.size w4 w'') := (HT.out w4 B04).mono fun e w5 ⟨a, h1, h2, h3⟩ => by
    obtain ⟨g4, k4, e4, o1, o2⟩ := h2
    refine ⟨g4, k4, ?_, ⟨g4, k4, ?_, o1, o2⟩, h3⟩
    · rw [h1, e4, HN.out.1, HN.out.2]
    · rw [HN.out.1, HN.out.2]
  go_wp2_with (first | (go_at_call 13; (with_reducible show Calls Try.prog 13 _ w4 _); refine HT5.out.mono ?_; rintro e w5 ⟨g4, k4, rfl, P4, B5⟩; skip) | (go_at_call 14; refine (HP.out (w5.alloc (.cells #[.int .i64 bw, .int .i64 bx, .slice (some ⟨g4, 0, none⟩) n n, .slice (some ⟨k4, 0, none⟩) m m] 27)) _ (P4.next alloc_b)).mono ?_; rintro e w6 ⟨rfl, B6⟩))
  have D6 := (C4.new w5 27 (.int .i64 bw) (.int .i64 bx) (.slice (some ⟨g4, 0, none⟩) n n) (.slice (some ⟨k4, 0, none⟩) m m)).next B6
  have C6x := ((CC4.next B5).next (alloc_b (o := (.cells #[.int .i64 bw, .int .i64 bx, .slice (some ⟨g4, 0, none⟩) n n, .slice (some ⟨k4, 0, none⟩) m m] 27)))).next B6
  have X6 := (P4.next (alloc_b (o := (.cells #[.int .i64 bw, .int .i64 bx, .slice (some ⟨g4, 0, none⟩) n n, .slice (some ⟨k4, 0, none⟩) m m] 27)))).next B6
  have B05 : Below w.heap.size w (w5.alloc (.cells #[.int .i64 bw, .int .i64 bx, .slice (some ⟨g4, 0, none⟩) n n, .slice (some ⟨k4, 0, none⟩) m m] 27)) := (B04.trans (B5.mono B04.size)).alloc (Nat.le_trans B04.size B5.size) _
  have B06 : Below w.heap.size w w6 := B05.trans (B6.mono B05.size)
  clear P4 B5 B6 B05 CC4 B04 r0 r1 r2 r3 rh HT5
  cases GB
  all_goals
    go_wp2
    generalize hWW : w6.drew = WX
    have D6 := D6.next (below_drew (Below.refl _ _))
    have C6x := C6x.next (below_drew (Below.refl _ _))
    have X6 := X6.next (below_drew (Below.refl _ _))
    have B06 := below_drew B06
    rw [hWW] at D6 C6x X6 B06
    refine wp_region_held_drew (S := fun v => Below WX.heap.size WX v) (by kernel_rfl) (by rw [hWW]; exact Below.refl _ _) (fun hH => ?_)
    rw [hWW] at hH ⊢
    clear hWW
    refine wpAnyH_take (i := 0) (oi := { dst := some 22, op := Op.load 27 (Operand.tmp 5), type := 27, pos := "exact.go:5419", after := #[], guard := none }) (v := .agg #[.int .i64 bw, .int .i64 bx, .slice (some ⟨g4, 0, none⟩) n n, .slice (some ⟨k4, 0, none⟩) m m]) rfl (by kernel_rfl) (by kernel_rfl) (by kernel_rfl) (fun _ _ _ h => h) (Or.inl ⟨by rfl, fun w0 hSw => by ((have e0 := cell_nx D6.c0 hSw); (have e1 := cell_nx D6.c1 hSw); (have e2 := cell_nx D6.c2 hSw); (have e3 := cell_nx D6.c3 hSw); go_simp)⟩) hH ?_
    simp only [Act.put, List.setIfInBounds_toArray, List.set_cons_zero, List.set_cons_succ]
    refine wpAnyH_take (i := 1) (oi := { dst := some 23, op := Op.load 37 (Operand.tmp 1), type := 37, pos := "exact.go:5419", after := #[], guard := none }) (v := .agg #[.int .i64 bw, .int .i64 bx, .slice ad n c, .slice bd m d]) rfl (by kernel_rfl) (by kernel_rfl) (by kernel_rfl) (fun _ _ _ h => h) (Or.inl ⟨by rfl, fun w0 hSw => by ((have e0 := cell_nx C6x.c0 hSw); (have e1 := cell_nx C6x.c1 hSw); (have e2 := cell_nx C6x.c2 hSw); (have e3 := cell_nx C6x.c3 hSw); go_simp)⟩) hH ?_
    simp only [Act.put, List.setIfInBounds_toArray, List.set_cons_zero, List.set_cons_succ]
    refine wpAnyH_ready (rs := [2]) (by kernel_rfl) (by simp) ?_
    refine (AllReadyH.cons (o := { dst := some 24, op := Op.call { callee := Callee.value (Operand.func 13), args := #[Operand.tmp 23], argTypes := #[37] }, type := 27, pos := "exact.go:5419", after := #[{ on := 1, ground := Ground.data }], guard := none }) rfl (fun K hK => ?_) AllReadyH.nil)
    refine step_callW 13 #[.agg #[.int .i64 bw, .int .i64 bx, .slice ad n c, .slice bd m d]] (fun z v w' => Sk w' z bw bx BL BH ∧ Below v.heap.size v w') (by rfl) (by go_simp) ((HT.out _ (B06.trans (hH.mono B06.size))).mono fun e w' ⟨a, h1, h2, h3⟩ => ⟨_, h1, h2, h3⟩) ?_
    rintro z8 w8 ⟨P8, B8⟩
    simp only [Act.put, List.setIfInBounds_toArray, List.set_cons_zero, List.set_cons_succ]
    refine hK.out _ _ (hH.trans (B8.mono hH.size)) (fun hH' => ?_)
    clear hK K
    have P6 := (X6.next (hH.trans (B8.mono hH.size)))
    replace hH := hH'
    clear hH' 
    refine wpAnyH_ready (rs := [3]) (by kernel_rfl) (by simp) ?_
    refine (AllReadyH.cons (o := { dst := some 25, op := Op.call { callee := Callee.value (Operand.func 8), args := #[Operand.tmp 22, Operand.tmp 24], argTypes := #[27, 27] }, type := 4, pos := "exact.go:5419", after := #[{ on := 0, ground := Ground.data }, { on := 2, ground := Ground.data }, { on := 2, ground := Ground.chain }], guard := none }) rfl (fun K hK => ?_) AllReadyH.nil)
    refine step_callW 8 #[.agg #[.int .i64 bw, .int .i64 bx, .slice (some ⟨g4, 0, none⟩) n n, .slice (some ⟨k4, 0, none⟩) m m], z8] (fun z v w' => z = .bool true ∧ Below v.heap.size v w') (by rfl) (by go_simp) ((eqScr bw bx _ _ BL BH _ P6 P8 HL.out HM2.out).mono fun e w' ⟨h1, h2⟩ => ⟨_, h1, rfl, h2⟩) ?_
    rintro z9 w9 ⟨rfl, B9⟩
    simp only [Act.put, List.setIfInBounds_toArray, List.set_cons_zero, List.set_cons_succ]
    refine hK.out _ _ (hH.trans (B9.mono hH.size)) (fun hH' => ?_)
    clear hK K
    replace hH := hH'
    clear hH' 
    refine wpAnyH_take (i := 4) (oi := { dst := some 26, op := Op.unOp UnOp.not 4 (Operand.tmp 25), type := 4, pos := "exact.go:5419", after := #[{ on := 3, ground := Ground.data }], guard := none }) (v := .bool false) rfl (by kernel_rfl) (by kernel_rfl) (by kernel_rfl) (fun _ _ _ h => h) (Or.inl ⟨by rfl, fun w0 hSw => by (go_simp)⟩) hH ?_
    simp only [Act.put, List.setIfInBounds_toArray, List.set_cons_zero, List.set_cons_succ]
    refine wpAnyH_done (by kernel_rfl) ?_ _
    go_wp2
    go_ret
    exact ⟨rfl, B06.trans (hH.mono B06.size)⟩

set_option maxRecDepth 100000 in
theorem lifted (os : Os) (started : os.Started) (H : Type) (enc : TypeId × Value → H) :
    ReturnsInHanded {} Try.checked os 4 .any (Rows.fnExactGoodScreenSpec.pre6 enc Try.prog Try.f4 Rows.fnExactGoodScreenRow.domain false) (Rows.fnExactGoodScreenSpec.post enc Try.prog Try.f4 false true false false) := by
  refine returnsInHanded_of_change (C := Try.checked) own started (by kernel_rfl) Try.func4
    (ChangeSpec.witness6 (enc := enc) (C := Try.checked) false ⟨#[], #[.agg #[.int .i64 0, .int .i64 0, .slice none 0 0, .slice none 0 0]], []⟩ 8 (by kernel_rfl) (by kernel_rfl) (by kernel_rfl) (by kernel_rfl)) ?_
  intro W base args ds gs before hval0 hW hcnd _
  have hval : ∀ (j : Nat) t v, Try.f4.params[j]? = some t → args[j]? = some v → Value.okWide Try.prog W .any base t v := hval0
  have hW' := hW
  obtain ⟨p, q, hA0, hV, rfl, hfz, hnd⟩ := hW
  have hA : DataW.TrodAll enc Try.prog W 0 (fun _ => true) true Try.f4.params.toList args.toList ds p := hA0
  rw [Try.params4] at hA hval
  obtain ⟨v0, vs0, d0, ds0, p0, q0, hargs, rfl, rfl, h0, r0⟩ := trodAll_cons hA
  obtain ⟨rfl, rfl, rfl⟩ := trodAll_nil r0
  obtain rfl : args = #[v0] := by cases args; simp_all
  obtain ⟨rfl, rfl⟩ := trodVars_none hV
  simp only [List.append_nil] at hW'
  have k0 := h0
  have lt0 : ∀ x ∈ p0, x.block < W.heap.size := fun x hx => by have := hW'.lt x (by simp [hx]); simpa using this
  obtain ⟨bw, bx, bu, bv, BL, BH, rfl, bU, bV, bl, bh⟩ := viewScr Try.underlying37 (by kernel_rfl) rfl rfl rfl rfl (by kernel_rfl) (by kernel_rfl) (by kernel_rfl) (by kernel_rfl) Try.underlying3 Try.underlying3 Try.underlying35 Try.underlying25 Try.underlying23 (by kernel_rfl) rfl rfl rfl rfl (by kernel_rfl) (by kernel_rfl) (by kernel_rfl) (by kernel_rfl) Try.underlying3 Try.underlying3 Try.underlying3 Try.underlying3 Try.underlying3 (by kernel_rfl) (hval 0 37 v0 rfl rfl) h0
  have arg0 : ∀ (W' : World), Below W.heap.size W W' → DataW.Trod enc Try.prog W' 0 (fun b => decide (b < W.heap.size)) true 37 (.agg #[.int .i64 bw, .int .i64 bx, bu, bv]) d0 p0 := fun W' hn => Below.trod laidOut (by kernel_rfl) (of_decide_eq_true (by kernel_rfl)) k0 hn lt0
  clear hA0 hval0
  refine (walk W bw bx bu bv BL BH bU bV bl bh).mono fun e W' ⟨he, hg⟩ => ?_
  subst he
  refine ⟨_, rfl, _, _, _, [], p0 ++ [], [], hW', (trodAll_cons_mk (shut_bool Try.underlying4 _) trodAll_mk0), (trodAll_cons_mk (arg0 _ hg) trodAll_mk0), rfl, hg.frame _, fun h => by cases h⟩
theorem over : Rows.fnExactGoodScreenRow.holds Try.pinned (OpenSpec.ofChange Rows.fnExactGoodScreenSpec) :=
  OpenClaim.holds_of_wide 4 Try.f4 rfl rfl rfl rfl rfl rfl rfl ⟨rfl, rfl, rfl, rfl, rfl⟩ rfl rfl rfl rfl rfl (by kernel_rfl) Try.func4 (by kernel_rfl)
    (of_decide_eq_true (by kernel_rfl)) (by unfold Func.isWrapper; first | (rw [if_pos (by decide +kernel)]; kernel_rfl) | (rw [if_neg (by decide +kernel)]; exact ⟨rfl, rfl⟩))
    (fun os started H enc _ => lifted os started H enc)
end Go.Proofs.Ytkngjngmalogaaa.fnExactGoodScreen
namespace Go.Proofs.Ytkngjngmalogaaa
theorem goodScreen : Rows.FnExactGoodScreenSaid := fnExactGoodScreen.over
#print axioms goodScreen
end Go.Proofs.Ytkngjngmalogaaa
