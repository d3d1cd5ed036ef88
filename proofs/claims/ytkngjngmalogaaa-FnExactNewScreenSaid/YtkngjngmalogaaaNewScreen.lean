/- NewScreen answers as its model at every pair of sides and every color; its answer owns its memory. No conditions. -/
import Derived.Test.YtkngjngmalogaaaRows
import Derived.Test.YtkngjngmalogaaaEc
namespace Go.Proofs.Ytkngjngmalogaaa.fnExactNewScreen
open Go.ChangeShapes Go.WideShapes Go.ChangeAt Go.RowKit
set_option linter.unusedVariables false
theorem own : ownKnob Try.prog.godebug = none := by kernel_rfl
theorem laidOut : laidOutB Try.prog = true := by kernel_rfl

set_option maxRecDepth 100000 in
set_option maxHeartbeats 8000000 in
theorem walk (w : World) (a0 : Int) (w0 : (Lit.int .i64 a0).wf = true) (a1 : Int) (w1 : (Lit.int .i64 a1).wf = true) (kr kg kb ka : Int) :
    Calls Try.prog 3 #[.int .i64 a0, .int .i64 a1, .agg #[.int .i64 kr, .int .i64 kg, .int .i64 kb, .int .i64 ka]] w fun e w' => e = .returned (.bool true) ∧ Below w.heap.size w w' := by
  have HMN : Hid (∀ w', Calls Try.prog 5 #[.int .i64 a0, .int .i64 a1, .agg #[.int .i64 kr, .int .i64 kg, .int .i64 kb, .int .i64 ka]] w' fun e w'' => ∃ a, e = .returned (.tuple #[a, .bool (nwB a0 a1 ⟨kr, kg, kb, ka⟩)]) ∧ NwA w'.heap.size w'' a (nwX a0 a1 a0 ⟨kr, kg, kb, ka⟩) (nwX a0 a1 a1 ⟨kr, kg, kb, ka⟩) (nwN a0 a1 ⟨kr, kg, kb, ka⟩) ⟨kr, kg, kb, ka⟩ ∧ Below w'.heap.size w' w'') := fun w' => mnew a0 a1 ⟨kr, kg, kb, ka⟩ w'
  have HPN : Hid (∀ w', Calls Try.prog 7 #[.int .i64 a0, .int .i64 a1, .agg #[.int .i64 kr, .int .i64 kg, .int .i64 kb, .int .i64 ka]] w' fun e w'' => ∃ a, e = .returned (.tuple #[a, .bool (nwB a0 a1 ⟨kr, kg, kb, ka⟩)]) ∧ NwA w'.heap.size w'' a (nwX a0 a1 a0 ⟨kr, kg, kb, ka⟩) (nwX a0 a1 a1 ⟨kr, kg, kb, ka⟩) (nwN a0 a1 ⟨kr, kg, kb, ka⟩) ⟨kr, kg, kb, ka⟩ ∧ Below w'.heap.size w' w'') := fun w' => pnew a0 a1 ⟨kr, kg, kb, ka⟩ w'
  have hn : nwN a0 a1 ⟨kr, kg, kb, ka⟩ ≤ 1048576 := by
    unfold nwN
    split
    · rename_i h
      unfold nwB at h
      simp only [Bool.and_eq_true] at h
      have := area_bnd h.1
      omega
    · omega
  generalize nwX a0 a1 a0 ⟨kr, kg, kb, ka⟩ = SX at HMN HPN
  generalize nwX a0 a1 a1 ⟨kr, kg, kb, ka⟩ = SY at HMN HPN
  generalize nwN a0 a1 ⟨kr, kg, kb, ka⟩ = n at HMN HPN hn
  generalize nwB a0 a1 ⟨kr, kg, kb, ka⟩ = GB at HMN HPN
  have KA := C4.new w 23 (.int .i64 kr) (.int .i64 kg) (.int .i64 kb) (.int .i64 ka)
  have BX : Below w.heap.size w (w.alloc (.cells #[.int .i64 kr, .int .i64 kg, .int .i64 kb, .int .i64 ka] 23)) := alloc_b
  obtain ⟨W1, hW1⟩ : ∃ z, w.alloc (.cells #[.int .i64 kr, .int .i64 kg, .int .i64 kb, .int .i64 ka] 23) = z := ⟨_, rfl⟩
  have HW1 := Hid.mk hW1
  rw [hW1] at KA BX
  clear hW1
  cases GB
  all_goals
    have k0 := KA.c0
    have k1 := KA.c1
    have k2 := KA.c2
    have k3 := KA.c3
    go_enter Try.func3, Try.ntmps3
    go_upto_region 1 with fail
    rw [HW1.out]
    clear HW1
    go_upto_region 2 with (first | (go_at_call 6; refine (toK kr kg kb ka _).mono ?_; rintro e w2 ⟨rfl, B2⟩; (replace KA := KA.next B2); (replace BX := BX.trans (B2.mono BX.size))) | (go_at_call 5; refine (HMN.out _).mono ?_; rintro e w3 ⟨ap, rfl, ⟨xp, zp, rfl, Rp, Ip, hxp, hzp, hqp⟩, B3⟩; obtain ⟨pa, pl, pc, rfl⟩ := Rp.is; obtain ⟨pd, pm, pe, rfl⟩ := Ip.is; (replace KA := KA.next B3); (replace BX := BX.trans (B3.mono BX.size))))
    have PB := C4.new w3 27 (.int .i64 SX) (.int .i64 SY) (.slice pa pl pc) (.slice pd pm pe)
    have RP := Rp.next (alloc_b (o := (.cells #[.int .i64 SX, .int .i64 SY, .slice pa pl pc, .slice pd pm pe] 27)))
    have IP := Ip.next (alloc_b (o := (.cells #[.int .i64 SX, .int .i64 SY, .slice pa pl pc, .slice pd pm pe] 27)))
    replace KA := KA.next (alloc_b (o := (.cells #[.int .i64 SX, .int .i64 SY, .slice pa pl pc, .slice pd pm pe] 27)))
    replace BX := BX.alloc BX.size (.cells #[.int .i64 SX, .int .i64 SY, .slice pa pl pc, .slice pd pm pe] 27)
    have hpX : Hid (∀ g, (Value.slice pa pl pc).ownBlock = some g → g < (w3.alloc (.cells #[.int .i64 SX, .int .i64 SY, .slice pa pl pc, .slice pd pm pe] 27)).heap.size) := fun g hg => RP.lt g hg
    have hpZ : Hid (∀ g, (Value.slice pd pm pe).ownBlock = some g → g < (w3.alloc (.cells #[.int .i64 SX, .int .i64 SY, .slice pa pl pc, .slice pd pm pe] 27)).heap.size) := fun g hg => by have := (hzp g hg).2; simp; omega
    have hwb : w3.heap.size < (w3.alloc (.cells #[.int .i64 SX, .int .i64 SY, .slice pa pl pc, .slice pd pm pe] 27)).heap.size := by simp
    have hwk : w.heap.size < (w3.alloc (.cells #[.int .i64 SX, .int .i64 SY, .slice pa pl pc, .slice pd pm pe] 27)).heap.size := KA.hi
    clear Rp Ip hxp hzp hqp B2 B3
    obtain ⟨pb, hpb⟩ : ∃ z, w3.heap.size = z := ⟨_, rfl⟩
    rw [hpb] at PB hwb ⊢
    generalize w3.alloc (.cells #[.int .i64 SX, .int .i64 SY, .slice pa pl pc, .slice pd pm pe] 27) = V1 at PB RP IP KA BX hpX hpZ hwb hwk ⊢
    clear hpb k0 k1 k2 k3
    have k0 := KA.c0
    have k1 := KA.c1
    have k2 := KA.c2
    have k3 := KA.c3
    go_upto_region 3 with (first | (go_at_call 6; refine (toK kr kg kb ka _).mono ?_; rintro e w4 ⟨rfl, B4⟩; (replace KA := KA.next B4); (replace PB := PB.next B4); (replace RP := RP.next B4); (replace IP := IP.next B4); (replace BX := BX.trans (B4.mono BX.size))) | (go_at_call 7; refine (HPN.out _).mono ?_; rintro e w5 ⟨ag, rfl, ⟨xg, zg, rfl, Rg, Ig, hxg, hzg, hqg⟩, B5⟩; obtain ⟨ga, gl, gc, rfl⟩ := Rg.is; obtain ⟨gd, gm, ge, rfl⟩ := Ig.is; (replace KA := KA.next B5); (replace PB := PB.next B5); (replace RP := RP.next B5); (replace IP := IP.next B5); (replace BX := BX.trans (B5.mono BX.size))))
    have GBx := C4.new w5 27 (.int .i64 SX) (.int .i64 SY) (.slice ga gl gc) (.slice gd gm ge)
    have RG := Rg.next (alloc_b (o := (.cells #[.int .i64 SX, .int .i64 SY, .slice ga gl gc, .slice gd gm ge] 27)))
    have IG := Ig.next (alloc_b (o := (.cells #[.int .i64 SX, .int .i64 SY, .slice ga gl gc, .slice gd gm ge] 27)))
    replace KA := KA.next (alloc_b (o := (.cells #[.int .i64 SX, .int .i64 SY, .slice ga gl gc, .slice gd gm ge] 27)))
    replace PB := PB.next (alloc_b (o := (.cells #[.int .i64 SX, .int .i64 SY, .slice ga gl gc, .slice gd gm ge] 27)))
    replace RP := RP.next (alloc_b (o := (.cells #[.int .i64 SX, .int .i64 SY, .slice ga gl gc, .slice gd gm ge] 27)))
    replace IP := IP.next (alloc_b (o := (.cells #[.int .i64 SX, .int .i64 SY, .slice ga gl gc, .slice gd gm ge] 27)))
    replace BX := BX.alloc BX.size (.cells #[.int .i64 SX, .int .i64 SY, .slice ga gl gc, .slice gd gm ge] 27)
    have s14 : V1.heap.size ≤ w4.heap.size := B4.size
    have hgX : Hid (∀ g, (Value.slice ga gl gc).ownBlock = some g → V1.heap.size ≤ g ∧ g < w5.heap.size) := fun g hg => ⟨by have := (hxg g hg).1; omega, (hxg g hg).2⟩
    have hgZ : Hid (∀ g, (Value.slice gd gm ge).ownBlock = some g → V1.heap.size ≤ g ∧ g < w5.heap.size) := fun g hg => ⟨by have := (hzg g hg).1; omega, (hzg g hg).2⟩
    have hgq := Hid.mk hqg
    have sV : V1.heap.size ≤ (w5.alloc (.cells #[.int .i64 SX, .int .i64 SY, .slice ga gl gc, .slice gd gm ge] 27)).heap.size := by have := B5.size; simp; omega
    clear Rg Ig hxg hzg hqg B4 B5 s14
    obtain ⟨gb, hgb⟩ : ∃ z, w5.heap.size = z := ⟨_, rfl⟩
    rw [hgb] at GBx hgX hgZ ⊢
    generalize w5.alloc (.cells #[.int .i64 SX, .int .i64 SY, .slice ga gl gc, .slice gd gm ge] 27) = V2 at GBx RG IG KA PB RP IP BX sV ⊢
    clear hgb k0 k1 k2 k3
    have p0 := PB.c0
    have p1 := PB.c1
    have p2 := PB.c2
    have p3 := PB.c3
    have g0 := GBx.c0
    have g1 := GBx.c1
    have g2 := GBx.c2
    have g3 := GBx.c3
    have HEQ := Hid.mk (eqScrV SX SY _ _ _ _ n V2 RG IG RP IP hn)
    go_upto_region 6 with (go_at_call 8; refine HEQ.out.mono ?_; rintro e w6 ⟨rfl, B6⟩; skip)
    have BX := BX.trans (B6.mono BX.size)
    have KA := KA.next B6
    have PB := PB.next B6
    have GBx := GBx.next B6
    have RP := RP.next B6
    have IP := IP.next B6
    have RG := RG.next B6
    have IG := IG.next B6
    have sV : V1.heap.size ≤ w6.heap.size := Nat.le_trans sV B6.size
    clear p0 p1 p2 p3 g0 g1 g2 g3 B6 HEQ
    have g0 := GBx.c0
    have g1 := GBx.c1
    have g2 := GBx.c2
    have g3 := GBx.c3
    have HMK := Hid.mk (markScr SX SY _ _ n w6 RG IG hn hgq.out)
    obtain ⟨M, hM⟩ : ∃ M, 1 + 4 * n + n = M := ⟨_, rfl⟩
    rw [hM] at HMK
    have HM := Hid.mk hM
    have M0 : ¬ (M : Int) < 0 := by omega
    clear hM
    go_upto_region 8 with (go_at_call 9; refine HMK.out.mono ?_; rintro e w7 ⟨rfl, R7, I7, F7⟩; skip)
    have BL := F7.below sV (fun g hg => (hgX.out g hg).1) (fun g hg => (hgZ.out g hg).1)
    have KA := KA.low BL hwk
    have PB := PB.low BL hwb
    have GBx := GBx.but2 F7 (fun e => by have := (hgX.out gb e.symm).2; omega) (fun e => by have := (hgZ.out gb e.symm).2; omega)
    have RP := RP.low BL hpX.out
    have IP := IP.low BL hpZ.out
    have BX : Below w.heap.size w w7 := BX.trans (BL.mono (by omega))
    clear g0 g1 g2 g3 F7 BL RG IG HMK sV
    have g0 := GBx.c0
    have g1 := GBx.c1
    have g2 := GBx.c2
    have g3 := GBx.c3
    have HHL : Hid (∀ w', Below w7.heap.size w7 w' → Calls Try.prog 10 #[.agg #[.int .i64 SX, .int .i64 SY, .slice ga gl gc, .slice gd gm ge], .int .i64 1] w' fun r w'' => r = .returned (.int .i64 (M : Int)) ∧ Below w'.heap.size w' w'') := fun w' b => by
      have h := heldScr SX SY _ _ n w' (R7.next b) (I7.next b) hn
      rwa [HM.out] at h
    go_upto_region 13 with (go_at_call 10; refine (HHL.out _ (Below.refl _ _)).mono ?_; rintro e w8 ⟨rfl, B8⟩; skip)
    have KA := KA.next B8
    have PB := PB.next B8
    have GBx := GBx.next B8
    have RP := RP.next B8
    have IP := IP.next B8
    have BX := BX.trans (B8.mono BX.size)
    have BH : Below w7.heap.size w7 w8 := B8
    clear R7 I7 B8 g0 g1 g2 g3
    have k0 := KA.c0
    have k1 := KA.c1
    have k2 := KA.c2
    have k3 := KA.c3
    go_upto_region 14 with (first | (go_at_call 6; refine (toK kr kg kb ka _).mono ?_; rintro e w9 ⟨rfl, B9⟩; (replace KA := KA.next B9); (replace PB := PB.next B9); (replace GBx := GBx.next B9); (replace RP := RP.next B9); (replace IP := IP.next B9); (replace BH := BH.trans (B9.mono BH.size)); (replace BX := BX.trans (B9.mono BX.size))) | (go_at_call 7; refine (HPN.out _).mono ?_; rintro e w10 ⟨ah, rfl, ⟨xh, zh, rfl, Rh, Ih, hxh, hzh, hqh⟩, B10⟩; obtain ⟨ha, hl, hc, rfl⟩ := Rh.is; obtain ⟨hd, hm, he, rfl⟩ := Ih.is; (replace KA := KA.next B10); (replace PB := PB.next B10); (replace GBx := GBx.next B10); (replace RP := RP.next B10); (replace IP := IP.next B10); (replace BH := BH.trans (B10.mono BH.size)); (replace BX := BX.trans (B10.mono BX.size))))
    have HBx := C4.new w10 27 (.int .i64 SX) (.int .i64 SY) (.slice ha hl hc) (.slice hd hm he)
    have RH := Rh.next (alloc_b (o := (.cells #[.int .i64 SX, .int .i64 SY, .slice ha hl hc, .slice hd hm he] 27)))
    have IH := Ih.next (alloc_b (o := (.cells #[.int .i64 SX, .int .i64 SY, .slice ha hl hc, .slice hd hm he] 27)))
    replace PB := PB.next (alloc_b (o := (.cells #[.int .i64 SX, .int .i64 SY, .slice ha hl hc, .slice hd hm he] 27)))
    replace GBx := GBx.next (alloc_b (o := (.cells #[.int .i64 SX, .int .i64 SY, .slice ha hl hc, .slice hd hm he] 27)))
    replace RP := RP.next (alloc_b (o := (.cells #[.int .i64 SX, .int .i64 SY, .slice ha hl hc, .slice hd hm he] 27)))
    replace IP := IP.next (alloc_b (o := (.cells #[.int .i64 SX, .int .i64 SY, .slice ha hl hc, .slice hd hm he] 27)))
    replace BX := BX.alloc BX.size (.cells #[.int .i64 SX, .int .i64 SY, .slice ha hl hc, .slice hd hm he] 27)
    replace BH := BH.alloc BH.size (.cells #[.int .i64 SX, .int .i64 SY, .slice ha hl hc, .slice hd hm he] 27)
    clear Rh Ih hxh hzh hqh B9 B10 KA
    obtain ⟨hb, hhb⟩ : ∃ z, w10.heap.size = z := ⟨_, rfl⟩
    rw [hhb] at HBx ⊢
    generalize w10.alloc (.cells #[.int .i64 SX, .int .i64 SY, .slice ha hl hc, .slice hd hm he] 27) = V3 at HBx RH IH PB GBx RP IP BX BH ⊢
    clear hhb k0 k1 k2 k3
    have p0 := PB.c0
    have p1 := PB.c1
    have p2 := PB.c2
    have p3 := PB.c3
    have h0 := HBx.c0
    have h1 := HBx.c1
    have h2 := HBx.c2
    have h3 := HBx.c3
    have HEQ := Hid.mk (eqScrV SX SY _ _ _ _ n V3 RH IH RP IP hn)
    go_upto_region 17 with (go_at_call 8; refine HEQ.out.mono ?_; rintro e w11 ⟨rfl, B11⟩; skip)
    have GBx := GBx.next B11
    have BX := BX.trans (B11.mono BX.size)
    have BH := BH.trans (B11.mono BH.size)
    clear p0 p1 p2 p3 h0 h1 h2 h3 B11 HEQ RP IP RH IH PB HBx
    have g0 := GBx.c0
    have g1 := GBx.c1
    have g2 := GBx.c2
    have g3 := GBx.c3
    go_wp2_with (go_at_call 10; refine (HHL.out _ BH).mono ?_; rintro e w12 ⟨rfl, B12⟩; skip)
    go_ret
    exact ⟨rfl, BX.trans (B12.mono BX.size)⟩

set_option maxRecDepth 100000 in
theorem lifted (os : Os) (started : os.Started) (H : Type) (enc : TypeId × Value → H) :
    ReturnsInHanded {} Try.checked os 3 .any (Rows.fnExactNewScreenSpec.pre6 enc Try.prog Try.f3 Rows.fnExactNewScreenRow.domain false) (Rows.fnExactNewScreenSpec.post enc Try.prog Try.f3 false true false false) := by
  refine returnsInHanded_of_change (C := Try.checked) own started (by kernel_rfl) Try.func3
    (ChangeSpec.witness6 (enc := enc) (C := Try.checked) false ⟨#[], #[.int .i64 0, .int .i64 0, .agg #[.int .i64 0, .int .i64 0, .int .i64 0, .int .i64 0]], []⟩ 8 (by kernel_rfl) (by kernel_rfl) (by kernel_rfl) (by kernel_rfl)) ?_
  intro W base args ds gs before hval0 hW hcnd _
  have hval : ∀ (j : Nat) t v, Try.f3.params[j]? = some t → args[j]? = some v → Value.okWide Try.prog W .any base t v := hval0
  have hW' := hW
  obtain ⟨p, q, hA0, hV, rfl, hfz, hnd⟩ := hW
  have hA : DataW.TrodAll enc Try.prog W 0 (fun _ => true) true Try.f3.params.toList args.toList ds p := hA0
  rw [Try.params3] at hA hval
  obtain ⟨v0, vs0, d0, ds0, p0, q0, hargs, rfl, rfl, h0, r0⟩ := trodAll_cons hA
  obtain ⟨v1, vs1, d1, ds1, p1, q1, rfl, rfl, rfl, h1, r1⟩ := trodAll_cons r0
  obtain ⟨v2, vs2, d2, ds2, p2, q2, rfl, rfl, rfl, h2, r2⟩ := trodAll_cons r1
  obtain ⟨rfl, rfl, rfl⟩ := trodAll_nil r2
  obtain rfl : args = #[v0, v1, v2] := by cases args; simp_all
  obtain ⟨rfl, rfl⟩ := trodVars_none hV
  simp only [List.append_nil] at hW'
  obtain ⟨a0, rfl, rfl, rfl, w0⟩ := open_int Try.underlying3 (hval 0 3 v0 rfl rfl) h0
  obtain ⟨a1, rfl, rfl, rfl, w1⟩ := open_int Try.underlying3 (hval 1 3 v1 rfl rfl) h1
  have k2 := h2
  have lt2 : ∀ x ∈ p2, x.block < W.heap.size := fun x hx => by have := hW'.lt x (by simp [hx]); simpa using this
  obtain ⟨kr, kg, kb, ka, rfl⟩ := viewK Try.underlying23 (by kernel_rfl) rfl rfl rfl rfl (by kernel_rfl) (by kernel_rfl) (by kernel_rfl) (by kernel_rfl) Try.underlying3 Try.underlying3 Try.underlying3 Try.underlying3 (hval 2 23 v2 rfl rfl) h2
  have arg2 : ∀ (W' : World), Below W.heap.size W W' → DataW.Trod enc Try.prog W' 0 (fun b => decide (b < W.heap.size)) true 23 (.agg #[.int .i64 kr, .int .i64 kg, .int .i64 kb, .int .i64 ka]) d2 p2 := fun W' hn => Below.trod laidOut (by kernel_rfl) (of_decide_eq_true (by kernel_rfl)) k2 hn lt2
  clear hA0 hval0
  refine (walk W a0 w0 a1 w1 kr kg kb ka).mono fun e W' ⟨he, hg⟩ => ?_
  subst he
  refine ⟨_, rfl, _, _, _, [], [] ++ ([] ++ (p2 ++ [])), [], hW', (trodAll_cons_mk (shut_bool Try.underlying4 _) trodAll_mk0), (trodAll_cons_mk (shut_int Try.underlying3 w0) (trodAll_cons_mk (shut_int Try.underlying3 w1) (trodAll_cons_mk (arg2 _ hg) trodAll_mk0))), rfl, hg.frame _, fun h => by cases h⟩
theorem over : Rows.fnExactNewScreenRow.holds Try.pinned (OpenSpec.ofChange Rows.fnExactNewScreenSpec) :=
  OpenClaim.holds_of_wide 3 Try.f3 rfl rfl rfl rfl rfl rfl rfl ⟨rfl, rfl, rfl, rfl, rfl⟩ rfl rfl rfl rfl rfl (by kernel_rfl) Try.func3 (by kernel_rfl)
    (of_decide_eq_true (by kernel_rfl)) (by unfold Func.isWrapper; first | (rw [if_pos (by decide +kernel)]; kernel_rfl) | (rw [if_neg (by decide +kernel)]; exact ⟨rfl, rfl⟩))
    (fun os started H enc _ => lifted os started H enc)
end Go.Proofs.Ytkngjngmalogaaa.fnExactNewScreen
namespace Go.Proofs.Ytkngjngmalogaaa
theorem newScreen : Rows.FnExactNewScreenSaid := fnExactNewScreen.over
#print axioms newScreen
end Go.Proofs.Ytkngjngmalogaaa
