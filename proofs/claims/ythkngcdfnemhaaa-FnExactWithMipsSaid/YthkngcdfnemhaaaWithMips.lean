/- WithMips answers as its model at every pair of sides, every number for a format and every row of colors; it writes into no argument, and its answer owns its memory. No conditions. -/
import Derived.Test.YthkngcdfnemhaaaRows
import Derived.Test.YthkngcdfnemhaaaBi
import Derived.Test.YthkngcdfnemhaaaBj
namespace Go.Proofs.Ythkngcdfnemhaaa.fnExactWithMips
open Go.ChangeShapes Go.WideShapes Go.ChangeAt Go.RowKit
set_option linter.unusedVariables false
theorem own : ownKnob Try.prog.godebug = none := by kernel_rfl
theorem laidOut : laidOutB Try.prog = true := by kernel_rfl

set_option maxRecDepth 100000 in
set_option maxHeartbeats 8000000 in
theorem walk (w : World) (a0 : Int) (w0 : (Lit.int .i64 a0).wf = true) (a1 : Int) (w1 : (Lit.int .i64 a1).wf = true) (a2 : Int) (w2 : (Lit.int .i64 a2).wf = true) (hs : Option Addr) (hn hc : Nat) (F0 F1 F2 F3 : Nat → Int) (hm : hn ≤ 9223372036854775807) (HA : ArgH w hs hn F0 F1 F2 F3) :
    Calls Try.prog 7 #[.int .i64 a0, .int .i64 a1, .int .i64 a2, .slice hs hn hc] w fun e w' => e = .returned (.bool true) ∧ Below w.heap.size w w' := by
  have HSZ : Hid (∀ w', Calls Try.prog 28 #[.slice hs hn hc, .int .i64 1048576] w' fun r w'' => r = .returned (.int .i64 (if (1048576 : Int) < (hn : Int) then -1 else 1048576 - hn)) ∧ w'' = w') := fun w' => szCol hs hn hc 1048576 w' hm (by decide) (by decide)
  by_cases hb : (1048576 : Int) < (hn : Int)
  · rw [if_pos hb] at HSZ
    go_enter Try.func7, Try.ntmps7
    go_wp2_with (go_at_call 28; refine (HSZ.out _).mono ?_; rintro e w2 ⟨rfl, hw⟩; subst w2)
    go_ret
    exact ⟨rfl, Below.refl _ _⟩
  rw [if_neg hb] at HSZ
  obtain ⟨z, hz⟩ : ∃ z, (1048576 : Int) - hn = z := ⟨_, rfl⟩
  rw [hz] at HSZ
  have z0 : ¬ z < 0 := by omega
  have hn' : hn ≤ 1048576 := by omega
  clear hz hb
  obtain ⟨Cs, hCs⟩ : ∃ Cs, clF (fun i => ⟨F0 i, F1 i, F2 i, F3 i⟩) hn = Cs := ⟨_, rfl⟩
  have HLC : Hid (Cs.length = hn) := by show _ = _; rw [← hCs]; exact clF_len _ _
  have HLCN : Hid (Cs.length ≤ 1048576) := by show _ ≤ _; rw [HLC.out]; exact hn'
  have HTO : Hid (∀ w', Below w.heap.size w w' → Calls Try.prog 30 #[.slice hs hn hc] w' fun r w'' => ∃ g, r = .returned (.slice (some ⟨g, 0, none⟩) hn hn) ∧ Hid (g = w'.heap.size) ∧ RowH w'' g hn (fun i => (Cs.getD i dC).r) (fun i => (Cs.getD i dC).g) (fun i => (Cs.getD i dC).b) (fun i => (Cs.getD i dC).a) ∧ Below w'.heap.size w' w'') := fun w' b => (argToH (HA.next b) hc hn').mono fun e w'' ⟨h1, h2, h3⟩ => ⟨_, h1, rfl, h2.mono (Nat.le_refl _) (fun i hi => by rw [← hCs, clF_at _ _ _ hi]) (fun i hi => by rw [← hCs, clF_at _ _ _ hi]) (fun i hi => by rw [← hCs, clF_at _ _ _ hi]) (fun i hi => by rw [← hCs, clF_at _ _ _ hi]), h3⟩
  obtain ⟨len, hLN⟩ : ∃ len, (fun i => (mpF a2 a0 a1 (lv0 a2 Cs) i).length) = len := ⟨_, rfl⟩
  obtain ⟨FF, hFF⟩ : ∃ FF, (fun i j => (mpF a2 a0 a1 (lv0 a2 Cs) i).getD j 0) = FF := ⟨_, rfl⟩
  have HMW : Hid (∀ w' x, KRow w' x Cs → Calls Try.prog 29 #[.int .i64 a0, .int .i64 a1, .int .i64 a2, x] w' fun e w'' => ∃ lv us, e = .returned (.tuple #[.agg #[.int .i64 (if wmB a0 a1 a2 Cs then a0 else 0), .int .i64 (if wmB a0 a1 a2 Cs then a1 else 0), .int .i64 (if wmB a0 a1 a2 Cs then a2 else 0), lv], .bool (wmB a0 a1 a2 Cs)]) ∧ TX w'.heap.size w''.heap.size w'' lv (if wmB a0 a1 a2 Cs then lcN a0 a1 else 0) us len FF ∧ Below w'.heap.size w' w'') := fun w' x K => (mmips a0 a1 a2 x Cs w' K HLCN.out).mono fun e w'' ⟨a, us, e1, M, b⟩ => by
    obtain ⟨lv, e2, T, _⟩ := M.tx
    rw [e2] at e1
    rw [← hLN, ← hFF]
    exact ⟨lv, _, e1, T, b⟩
  have HPW : Hid (∀ w' x, KRow w' x Cs → Calls Try.prog 31 #[.int .i64 a0, .int .i64 a1, .int .i64 a2, x] w' fun e w'' => ∃ lv us, e = .returned (.tuple #[.agg #[.int .i64 (if wmB a0 a1 a2 Cs then a0 else 0), .int .i64 (if wmB a0 a1 a2 Cs then a1 else 0), .int .i64 (if wmB a0 a1 a2 Cs then a2 else 0), lv], .bool (wmB a0 a1 a2 Cs)]) ∧ TX w'.heap.size w''.heap.size w'' lv (if wmB a0 a1 a2 Cs then lcN a0 a1 else 0) us len FF ∧ Below w'.heap.size w' w'') := fun w' x K => (pmips a0 a1 a2 x Cs w' K HLCN.out).mono fun e w'' ⟨a, us, e1, M, b⟩ => by
    obtain ⟨lv, e2, T, _⟩ := M.tx
    rw [e2] at e1
    rw [← hLN, ← hFF]
    exact ⟨lv, _, e1, T, b⟩
  have hm5 : (if wmB a0 a1 a2 Cs then lcN a0 a1 else 0) ≤ 50 := by
    have := lcN_le a0 a1
    split <;> omega
  have hl5 : ∀ i, i < (if wmB a0 a1 a2 Cs then lcN a0 a1 else 0) → len i ≤ 100000 := by
    intro i hi
    rw [← hLN]
    show (mpF a2 a0 a1 (lv0 a2 Cs) i).length ≤ 100000
    split at hi
    · rename_i hg
      have h5 := lcN_le a0 a1
      unfold wmB at hg
      simp only [Bool.and_eq_true, gsB_iff, decide_eq_true_eq] at hg
      obtain ⟨hf0, ⟨hs, hy⟩, hlen, hall⟩ := hg
      have hf : a2 = 1 ∨ a2 = 2 ∨ a2 = 3 := by
        rcases fm_cases a2 with h | h | h | h
        · exact Or.inl h
        · exact Or.inr (Or.inl h)
        · exact Or.inr (Or.inr h)
        · rw [(fm_no h).2.1] at hf0; cases hf0
      obtain ⟨lo1, lo2⟩ := lv0_ok hf hall
      have lo3 : ((lv0 a2 Cs).length : Int) = a0 * a1 * (szF a2 : Int) := by rw [lo1, Int.natCast_mul, hlen]
      have m1 := (mp_ok hf hs hy lo3 lo2 i (by omega)).1
      have a1' := gS_bnd (gS_sd hs i (by omega))
      have a2' := gS_bnd (gS_sd hy i (by omega))
      have z4 : szF a2 ≤ 4 := by rcases hf with rfl | rfl | rfl <;> decide
      have h6 : sdI a0 i * sdI a1 i ≤ 16 * 16 := Int.mul_le_mul a1'.2 a2'.2 (by omega) (by decide)
      have h7 : sdI a0 i * sdI a1 i * (szF a2 : Int) ≤ (16 * 16) * 4 := Int.mul_le_mul h6 (by omega) (by omega) (by decide)
      omega
    · omega
  clear hLN hFF hCs
  generalize (if wmB a0 a1 a2 Cs then a0 else 0) = SX at HMW HPW
  generalize (if wmB a0 a1 a2 Cs then a1 else 0) = SY at HMW HPW
  generalize (if wmB a0 a1 a2 Cs then a2 else 0) = SL at HMW HPW
  generalize (if wmB a0 a1 a2 Cs then lcN a0 a1 else 0) = m at HMW HPW hm5 hl5
  generalize wmB a0 a1 a2 Cs = GB at HMW HPW
  have BX : Below w.heap.size w w := Below.refl _ _
  have HST : Hid (st len m ≤ 1 + 100000 * m) := st_le hl5 m (Nat.le_refl _)
  have HL5 := Hid.mk hl5
  clear hl5 HA
  cases GB
  all_goals
    go_enter Try.func7, Try.ntmps7
    go_upto_region 6 with (first | (go_at_call 28; refine (HSZ.out _).mono ?_; rintro e w1 ⟨rfl, hw⟩; subst w1) | (go_at_call 30; refine (HTO.out _ BX).mono ?_; rintro e w2 ⟨x0, rfl, hgw2, Rx0, B2⟩; (have hxw2 := Rx0.hi); (replace BX := BX.trans (B2.mono BX.size))) | (go_at_call 29; refine (HMW.out _ _ (Rx0.krow HLC.out)).mono ?_; rintro e w3 ⟨lvp, usp, rfl, Tp, B3⟩; obtain ⟨pa, pl, pc, rfl⟩ := Tp.is; (replace BX := BX.trans (B3.mono BX.size))))
    have PB := C4.new w3 43 (.int .i64 SX) (.int .i64 SY) (.int .i64 SL) (.slice pa pl pc)
    have TP := Tp.next (alloc_b (o := (.cells #[.int .i64 SX, .int .i64 SY, .int .i64 SL, .slice pa pl pc] 43)))
    replace BX := BX.alloc BX.size (.cells #[.int .i64 SX, .int .i64 SY, .int .i64 SL, .slice pa pl pc] 43)
    have hpV : w3.heap.size < (w3.alloc (.cells #[.int .i64 SX, .int .i64 SY, .int .i64 SL, .slice pa pl pc] 43)).heap.size := by simp
    clear Tp B2 B3 Rx0 hgw2 hxw2
    obtain ⟨pb, hpb⟩ : ∃ z, w3.heap.size = z := ⟨_, rfl⟩
    rw [hpb] at PB TP hpV ⊢
    generalize w2.heap.size = Bp at TP
    generalize w3.alloc (.cells #[.int .i64 SX, .int .i64 SY, .int .i64 SL, .slice pa pl pc] 43) = V1 at PB TP BX hpV ⊢
    have swV : w.heap.size ≤ V1.heap.size := BX.size
    clear hpb
    go_upto_region 8 with (first | (go_at_call 30; refine (HTO.out _ BX).mono ?_; rintro e w4 ⟨x1, rfl, hgw4, Rx1, B4⟩; (have hxw4 := Rx1.hi); (replace PB := PB.next B4); (replace TP := TP.next B4); (replace BX := BX.trans (B4.mono BX.size))) | (go_at_call 31; refine (HPW.out _ _ (Rx1.krow HLC.out)).mono ?_; rintro e w5 ⟨lvg, usg, rfl, Tg, B5⟩; obtain ⟨ga, gl, gc, rfl⟩ := Tg.is; (replace PB := PB.next B5); (replace TP := TP.next B5); (replace Rx1 := Rx1.next B5); (replace BX := BX.trans (B5.mono BX.size))))
    have GBx := C4.new w5 43 (.int .i64 SX) (.int .i64 SY) (.int .i64 SL) (.slice ga gl gc)
    have TG := Tg.next (alloc_b (o := (.cells #[.int .i64 SX, .int .i64 SY, .int .i64 SL, .slice ga gl gc] 43)))
    replace PB := PB.next (alloc_b (o := (.cells #[.int .i64 SX, .int .i64 SY, .int .i64 SL, .slice ga gl gc] 43)))
    replace TP := TP.next (alloc_b (o := (.cells #[.int .i64 SX, .int .i64 SY, .int .i64 SL, .slice ga gl gc] 43)))
    replace Rx1 := Rx1.next (alloc_b (o := (.cells #[.int .i64 SX, .int .i64 SY, .int .i64 SL, .slice ga gl gc] 43)))
    replace BX := BX.alloc BX.size (.cells #[.int .i64 SX, .int .i64 SY, .int .i64 SL, .slice ga gl gc] 43)
    have sV : w5.heap.size < (w5.alloc (.cells #[.int .i64 SX, .int .i64 SY, .int .i64 SL, .slice ga gl gc] 43)).heap.size := by simp
    have s45 : w4.heap.size ≤ w5.heap.size := B5.size
    have s4 : V1.heap.size ≤ w4.heap.size := B4.size
    have hx1 : x1 < w4.heap.size := hxw4
    clear Tg B4 B5
    obtain ⟨gb, hgb⟩ : ∃ z, w5.heap.size = z := ⟨_, rfl⟩
    rw [hgb] at GBx TG sV s45 ⊢
    obtain ⟨Bg, hBg⟩ : ∃ z, w4.heap.size = z := ⟨_, rfl⟩
    rw [hBg] at TG s45 s4 hx1
    generalize w5.alloc (.cells #[.int .i64 SX, .int .i64 SY, .int .i64 SL, .slice ga gl gc] 43) = V2 at GBx TG PB TP Rx1 BX sV ⊢
    clear hgb hBg hxw4
    have hpx : pb < x1 := by have := hgw4.out; omega
    have hwx : w.heap.size ≤ x1 := by have := hgw4.out; omega
    clear hgw4
    have p0 := PB.c0
    have p1 := PB.c1
    have p2 := PB.c2
    have p3 := PB.c3
    have g0 := GBx.c0
    have g1 := GBx.c1
    have g2 := GBx.c2
    have g3 := GBx.c3
    have HEQ := Hid.mk (eqXT SX SY SL TG TP hm5 HL5.out)
    go_upto_region 10 with (go_at_call 27; refine HEQ.out.mono ?_; rintro e w6 ⟨rfl, B6⟩; skip)
    replace BX := BX.trans (B6.mono BX.size)
    replace PB := PB.next B6
    replace TP := TP.next B6
    replace Rx1 := Rx1.next B6
    replace GBx := GBx.next B6
    replace TG := TG.next B6
    clear p0 p1 p2 p3 g0 g1 g2 g3 B6 HEQ
    go_upto_region 13 with (first | (go_at_call 30; refine (HTO.out _ BX).mono ?_; rintro e w7 ⟨x2, rfl, hgw7, Rx2, B7⟩; (have hxw7 := Rx2.hi); (replace PB := PB.next B7); (replace TP := TP.next B7); (replace Rx1 := Rx1.next B7); (replace GBx := GBx.next B7); (replace TG := TG.next B7); (replace BX := BX.trans (B7.mono BX.size))) | (go_at_call 32; refine (eqRowH Rx1 Rx2 hn hn hn').mono ?_; rintro e w8 ⟨rfl, B8⟩; (replace PB := PB.next B8); (replace TP := TP.next B8); (replace Rx1 := Rx1.next B8); (replace GBx := GBx.next B8); (replace TG := TG.next B8); (replace BX := BX.trans (B8.mono BX.size))))
    clear B7 B8 Rx2 hgw7 hxw7
    have HMK := Hid.mk (markH Rx1 hn hn')
    obtain ⟨M, hM⟩ : ∃ M, 1 + 4 * hn = M := ⟨_, rfl⟩
    rw [hM] at HMK
    have M0 : ¬ (M : Int) < 0 := by omega
    clear hM
    have sg8 : gb < w8.heap.size := GBx.hi
    go_upto_region 14 with (go_at_call 33; refine HMK.out.mono ?_; rintro e w9 ⟨rfl, -, O9⟩; skip)
    have BL := O9.below (Nat.le_refl _) (by omega)
    replace BX := BX.trans (BL.mono hwx)
    replace PB := PB.low BL hpx
    replace TP := TP.low BL (Nat.le_of_lt hpx)
    replace GBx := GBx.block (O9.block gb GBx.hi (by omega)) O9.size
    replace TG := TG.block (fun k k1 k2 => O9.block k (by omega) (by omega)) O9.size
    clear HMK BL O9 Rx1
    have p0 := PB.c0
    have p1 := PB.c1
    have p2 := PB.c2
    have p3 := PB.c3
    have g0 := GBx.c0
    have g1 := GBx.c1
    have g2 := GBx.c2
    have g3 := GBx.c3
    have HEQ := Hid.mk (eqXT SX SY SL TG TP hm5 HL5.out)
    go_upto_region 16 with (go_at_call 27; refine HEQ.out.mono ?_; rintro e w10 ⟨rfl, B10⟩; skip)
    replace BX := BX.trans (B10.mono BX.size)
    replace PB := PB.next B10
    replace TP := TP.next B10
    replace GBx := GBx.next B10
    replace TG := TG.next B10
    clear p0 p1 p2 p3 g0 g1 g2 g3 B10 HEQ
    have g0 := GBx.c0
    have g1 := GBx.c1
    have g2 := GBx.c2
    have g3 := GBx.c3
    have HMT := Hid.mk (markXT SX SY SL TG hm5 HL5.out)
    have HHL : Hid (∀ w', TX Bg gb w' (.slice ga gl gc) m usg len (mkF len) → Calls Try.prog 35 #[.agg #[.int .i64 SX, .int .i64 SY, .int .i64 SL, .slice ga gl gc], .int .i64 1] w' fun r w'' => r = .returned (.int .i64 ((st len m : Nat) : Int)) ∧ Below w'.heap.size w' w'') := fun w' T => heldXT SX SY SL T hm5 HL5.out
    have hst := HST.out
    generalize st len m = MM at HMT HHL hst
    have N0 : ¬ (MM : Int) < 0 := by omega
    have sg10 : gb < w10.heap.size := GBx.hi
    go_upto_region 19 with (go_at_call 34; refine HMT.out.mono ?_; rintro e w11 ⟨rfl, TM, BT⟩; skip)
    have BL := BT.below (show Bg ≤ w10.heap.size by omega)
    replace BX := BX.trans (BL.mono (by omega))
    replace PB := PB.low BL (by omega)
    replace TP := TP.low BL (by omega)
    replace GBx := GBx.block (BT.block gb GBx.hi (Or.inr (Nat.le_refl _))) BT.size
    clear g0 g1 g2 g3 HMT BL BT TG hst HST
    have g0 := GBx.c0
    have g1 := GBx.c1
    have g2 := GBx.c2
    have g3 := GBx.c3
    go_upto_region 24 with (go_at_call 35; refine (HHL.out _ TM).mono ?_; rintro e w12 ⟨rfl, B12⟩; skip)
    replace BX := BX.trans (B12.mono BX.size)
    replace PB := PB.next B12
    replace TP := TP.next B12
    replace GBx := GBx.next B12
    replace TM := TM.next B12
    clear g0 g1 g2 g3 B12
    go_upto_region 25 with (first | (go_at_call 30; refine (HTO.out _ BX).mono ?_; rintro e w13 ⟨x3, rfl, hgw13, Rx3, B13⟩; (have hxw13 := Rx3.hi); (replace PB := PB.next B13); (replace TP := TP.next B13); (replace GBx := GBx.next B13); (replace TM := TM.next B13); (replace BX := BX.trans (B13.mono BX.size))) | (go_at_call 31; refine (HPW.out _ _ (Rx3.krow HLC.out)).mono ?_; rintro e w14 ⟨lvh, ush, rfl, Th, B14⟩; obtain ⟨ha, hl, hc, rfl⟩ := Th.is; (replace PB := PB.next B14); (replace TP := TP.next B14); (replace GBx := GBx.next B14); (replace TM := TM.next B14); (replace BX := BX.trans (B14.mono BX.size))))
    have HBx := C4.new w14 43 (.int .i64 SX) (.int .i64 SY) (.int .i64 SL) (.slice ha hl hc)
    have TH := Th.next (alloc_b (o := (.cells #[.int .i64 SX, .int .i64 SY, .int .i64 SL, .slice ha hl hc] 43)))
    replace PB := PB.next (alloc_b (o := (.cells #[.int .i64 SX, .int .i64 SY, .int .i64 SL, .slice ha hl hc] 43)))
    replace TP := TP.next (alloc_b (o := (.cells #[.int .i64 SX, .int .i64 SY, .int .i64 SL, .slice ha hl hc] 43)))
    replace GBx := GBx.next (alloc_b (o := (.cells #[.int .i64 SX, .int .i64 SY, .int .i64 SL, .slice ha hl hc] 43)))
    replace TM := TM.next (alloc_b (o := (.cells #[.int .i64 SX, .int .i64 SY, .int .i64 SL, .slice ha hl hc] 43)))
    replace BX := BX.alloc BX.size (.cells #[.int .i64 SX, .int .i64 SY, .int .i64 SL, .slice ha hl hc] 43)
    clear Th B13 B14 Rx3 hgw13 hxw13
    obtain ⟨hb, hhb⟩ : ∃ z, w14.heap.size = z := ⟨_, rfl⟩
    rw [hhb] at HBx TH ⊢
    generalize w14.alloc (.cells #[.int .i64 SX, .int .i64 SY, .int .i64 SL, .slice ha hl hc] 43) = V3 at HBx TH PB TP GBx TM BX ⊢
    clear hhb
    have p0 := PB.c0
    have p1 := PB.c1
    have p2 := PB.c2
    have p3 := PB.c3
    have h0 := HBx.c0
    have h1 := HBx.c1
    have h2 := HBx.c2
    have h3 := HBx.c3
    have HEQ := Hid.mk (eqXT SX SY SL TH TP hm5 HL5.out)
    go_upto_region 28 with (go_at_call 27; refine HEQ.out.mono ?_; rintro e w15 ⟨rfl, B15⟩; skip)
    replace BX := BX.trans (B15.mono BX.size)
    replace GBx := GBx.next B15
    replace TM := TM.next B15
    clear p0 p1 p2 p3 h0 h1 h2 h3 B15 HEQ PB TP TH HBx
    have g0 := GBx.c0
    have g1 := GBx.c1
    have g2 := GBx.c2
    have g3 := GBx.c3
    go_wp2_with (go_at_call 35; refine (HHL.out _ TM).mono ?_; rintro e w16 ⟨rfl, B16⟩; skip)
    go_ret
    exact ⟨rfl, BX.trans (B16.mono BX.size)⟩

set_option maxRecDepth 100000 in
theorem lifted (os : Os) (started : os.Started) (H : Type) (enc : TypeId × Value → H) :
    ReturnsInHanded {} Try.checked os 7 .any (Rows.fnExactWithMipsSpec.pre6 enc Try.prog Try.f7 Rows.fnExactWithMipsRow.domain false) (Rows.fnExactWithMipsSpec.post enc Try.prog Try.f7 false true false false) := by
  refine returnsInHanded_of_change (C := Try.checked) own started (by kernel_rfl) Try.func7
    (ChangeSpec.witness6 (enc := enc) (C := Try.checked) false ⟨#[], #[.int .i64 0, .int .i64 0, .int .i64 0, .slice none 0 0], []⟩ 8 (by kernel_rfl) (by kernel_rfl) (by kernel_rfl) (by kernel_rfl)) ?_
  intro W base args ds gs before hval0 hW hcnd _
  have hval : ∀ (j : Nat) t v, Try.f7.params[j]? = some t → args[j]? = some v → Value.okWide Try.prog W .any base t v := hval0
  have hW' := hW
  obtain ⟨p, q, hA0, hV, rfl, hfz, hnd⟩ := hW
  have hA : DataW.TrodAll enc Try.prog W 0 (fun _ => true) true Try.f7.params.toList args.toList ds p := hA0
  rw [Try.params7] at hA hval
  obtain ⟨v0, vs0, d0, ds0, p0, q0, hargs, rfl, rfl, h0, r0⟩ := trodAll_cons hA
  obtain ⟨v1, vs1, d1, ds1, p1, q1, rfl, rfl, rfl, h1, r1⟩ := trodAll_cons r0
  obtain ⟨v2, vs2, d2, ds2, p2, q2, rfl, rfl, rfl, h2, r2⟩ := trodAll_cons r1
  obtain ⟨v3, vs3, d3, ds3, p3, q3, rfl, rfl, rfl, h3, r3⟩ := trodAll_cons r2
  obtain ⟨rfl, rfl, rfl⟩ := trodAll_nil r3
  obtain rfl : args = #[v0, v1, v2, v3] := by cases args; simp_all
  obtain ⟨rfl, rfl⟩ := trodVars_none hV
  simp only [List.append_nil] at hW'
  obtain ⟨a0, rfl, rfl, rfl, w0⟩ := open_int Try.underlying3 (hval 0 3 v0 rfl rfl) h0
  obtain ⟨a1, rfl, rfl, rfl, w1⟩ := open_int Try.underlying3 (hval 1 3 v1 rfl rfl) h1
  obtain ⟨a2, rfl, rfl, rfl, w2⟩ := open_int Try.underlying3 (hval 2 3 v2 rfl rfl) h2
  have k3 := h3
  have lt3 : ∀ x ∈ p3, x.block < W.heap.size := fun x hx => by have := hW'.lt x (by simp [hx]); simpa using this
  obtain ⟨hs, hn, hc, F0, F1, F2, F3, rfl, hm, HA, _, _, _, _⟩ := viewH Try.underlying47 Try.underlying23 (by kernel_rfl) rfl rfl rfl rfl (by kernel_rfl) (by kernel_rfl) (by kernel_rfl) (by kernel_rfl) Try.underlying3 Try.underlying3 Try.underlying3 Try.underlying3 (hval 3 47 v3 rfl rfl) h3 lt3
  have arg3 : ∀ (W' : World), Below W.heap.size W W' → DataW.Trod enc Try.prog W' 0 (fun b => decide (b < W.heap.size)) true 47 (.slice hs hn hc) d3 p3 := fun W' hn => Below.trod laidOut (by kernel_rfl) (of_decide_eq_true (by kernel_rfl)) k3 hn lt3
  clear hA0 hval0
  refine (walk W a0 w0 a1 w1 a2 w2 hs hn hc F0 F1 F2 F3 hm HA).mono fun e W' ⟨he, hg⟩ => ?_
  subst he
  refine ⟨_, rfl, _, _, _, [], [] ++ ([] ++ ([] ++ (p3 ++ []))), [], hW', (trodAll_cons_mk (shut_bool Try.underlying4 _) trodAll_mk0), (trodAll_cons_mk (shut_int Try.underlying3 w0) (trodAll_cons_mk (shut_int Try.underlying3 w1) (trodAll_cons_mk (shut_int Try.underlying3 w2) (trodAll_cons_mk (arg3 _ hg) trodAll_mk0)))), rfl, hg.frame _, fun h => by cases h⟩
theorem over : Rows.fnExactWithMipsRow.holds Try.pinned (OpenSpec.ofChange Rows.fnExactWithMipsSpec) :=
  OpenClaim.holds_of_wide 7 Try.f7 rfl rfl rfl rfl rfl rfl rfl ⟨rfl, rfl, rfl, rfl, rfl⟩ rfl rfl rfl rfl rfl (by kernel_rfl) Try.func7 (by kernel_rfl)
    (of_decide_eq_true (by kernel_rfl)) (by unfold Func.isWrapper; first | (rw [if_pos (by decide +kernel)]; kernel_rfl) | (rw [if_neg (by decide +kernel)]; exact ⟨rfl, rfl⟩))
    (fun os started H enc _ => lifted os started H enc)
end Go.Proofs.Ythkngcdfnemhaaa.fnExactWithMips
namespace Go.Proofs.Ythkngcdfnemhaaa
theorem withMips : Rows.FnExactWithMipsSaid := fnExactWithMips.over
#print axioms withMips
end Go.Proofs.Ythkngcdfnemhaaa
