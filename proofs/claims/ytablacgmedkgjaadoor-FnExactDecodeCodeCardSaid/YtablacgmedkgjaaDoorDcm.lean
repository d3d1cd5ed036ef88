/- The model's DecodeCode; conditions: at most 2^20 bytes, the data stand in memory. -/
import Derived.Test.YtablacgmedkgjaaDoorDcl
import Derived.Deep.Cut
import Derived.Deep.DeepCutAuto
namespace Go.Proofs.YtablacgmedkgjaaDoor
open Go.ChangeShapes Go.WideShapes Go.ChangeAt Go.RowKit
set_option linter.unusedVariables false
set_option maxRecDepth 100000 in
set_option maxHeartbeats 8000000 in
theorem dec27 (g N : Nat) (f : Nat → Int) (w : World) (OW : Own w g N (fun i => .int .u8 (f i))) (hf : ∀ i, 0 ≤ f i ∧ f i < 256) (hN : N ≤ 1048576) : Calls Tryd.prog 28 #[.slice (some ⟨g, 0, none⟩) N N] w (SaysD w f N) := by
  obtain ⟨i5, hi5, hz50, hz51, hz52⟩ := info_parts info35
  have gl := OW.hi
  have HSt : Hid (Bt (fz f N)) := fz_bt hf
  have HNo : Hid (∀ w', Below w.heap.size w w' → ¬ (N = pp (fz f N) (cnt (fz f N)) + 2 ∧ cnt (fz f N) ≤ 600) → SaysD w f N (.returned (.tuple #[.slice none 0 0, .bool false])) w') := fun w' b h => saysD_no (decOk_no h) b
  by_cases n8 : N < 8
  · have n8' : (N : Int) < 8 := by omega
    go_enter Tryd.func28, Tryd.ntmps28
    go_wp2
    go_ret2
    exact HNo.out _ (Below.refl _ _) (fun ⟨h, _⟩ => by have := pp_mono (fz f N) 0 (cnt (fz f N)) (by omega); have e : pp (fz f N) 0 = 6 := rfl; omega)
  have n8' : ¬ (N : Int) < 8 := by omega
  by_cases n9 : 8400 < N
  · have n9' : (8400 : Int) < (N : Int) := by omega
    go_enter Tryd.func28, Tryd.ntmps28
    go_wp2
    go_ret2
    exact HNo.out _ (Below.refl _ _) (fun ⟨h, h2⟩ => by have := pp_le (fz f N) (cnt (fz f N)); omega)
  have n9' : (N : Int) ≤ 8400 := by omega
  have HNo2 : Hid (∀ w', Below w.heap.size w w' → gdP (fz f N) (cnt (fz f N)) = false → SaysD w f N (.returned (.tuple #[.slice none 0 0, .bool false])) w') := fun w' b h => saysD_no (by unfold decOk; rw [h]; simp) b
  have HNo3 : Hid (∀ w', Below w.heap.size w w' → ¬ enP (fz f N) (cnt (fz f N)) = dl f N → SaysD w f N (.returned (.tuple #[.slice none 0 0, .bool false])) w') := fun w' b h => saysD_no (by unfold decOk; rw [decide_eq_false h]; simp) b
  have HYs : Hid (∀ v w', cnt (fz f N) ≤ 600 → gdP (fz f N) (cnt (fz f N)) = true → enP (fz f N) (cnt (fz f N)) = dl f N → RowIV w' v (cnt (fz f N)) (pO (fz f N)) (pF (fz f N) 0) (pF (fz f N) 1) (pF (fz f N) 2) (pF (fz f N) 3) (pF (fz f N) 4) → (∀ g, v.ownBlock = some g → w.heap.size ≤ g) → Below w.heap.size w w' → SaysD w f N (.returned (.tuple #[v, .bool true])) w') := fun v w' h0 h1 h2 R hg b => by
    have e : decOk f N = true := by unfold decOk; rw [h1, decide_eq_true h0, decide_eq_true h2]; rfl
    exact ⟨v, by rw [e], by rw [e]; exact R, hg, b⟩
  have HFz : Hid (∀ i, i < N → fz f N i = f i) := fun i hi => by show _ = _; unfold fz; rw [if_pos hi]
  have HCn : Hid (f 4 + 256 * f 5 = (cnt (fz f N) : Int)) := by
    have := (num_range HSt.out 2 4 (by decide)).1
    show _ = _
    unfold cnt
    rw [Int.toNat_of_nonneg this]
    show _ = fz f N 4 + 256 * (fz f N 5 + 256 * 0)
    rw [HFz.out 4 (by omega), HFz.out 5 (by omega)]
    omega
  have b4 := hf 4
  have b5 := hf 5
  have c4 := OW.cell 4 (by omega)
  have c5 := OW.cell 5 (by omega)
  have HOw : Hid (Own w g N (fun i => .int .u8 (f i))) := OW
  have HBy : Hid (Byts (dl f N)) := byts_dl hf N
  obtain ⟨n, hn⟩ : ∃ n, cnt (fz f N) = n := ⟨_, rfl⟩
  have hcn : n ≤ 65535 := by have := HCn.out; omega
  rw [hn] at HCn HNo HNo2 HNo3 HYs
  obtain ⟨s, hs⟩ : ∃ s, fz f N = s := ⟨_, rfl⟩
  rw [hs] at HSt HNo HNo2 HNo3 HYs HFz
  have k4 : (4 : Int) < (N : Int) := by omega
  have k5 : (5 : Int) < (N : Int) := by omega
  have HHf : Hid (∀ i, 0 ≤ f i ∧ f i < 256) := hf
  clear OW hn hs hf n8 n9
  obtain ⟨x4, hx4⟩ : ∃ x, f 4 = x := ⟨_, rfl⟩
  obtain ⟨x5, hx5⟩ : ∃ x, f 5 = x := ⟨_, rfl⟩
  rw [hx4] at c4 b4 HCn
  rw [hx5] at c5 b5 HCn
  clear hx4 hx5
  obtain ⟨b40, b41⟩ := b4
  obtain ⟨b50, b51⟩ := b5
  go_enter Tryd.func28, Tryd.ntmps28
  go_upto_region 3 with fail
  go_cut [4] (fun nv wx => nv = .int .i64 (n : Int) ∧ Below w.heap.size w wx)
  case first =>
    go_region_held3 (fun v => v.cell? ⟨g, 4, none⟩ = some (.int .u8 x4) ∧ v.cell? ⟨g, 5, none⟩ = some (.int .u8 x5)) (first | with_reducible exact ⟨c4, c5⟩ | (go_keep; done)) (fail)
    all_goals
      go_wp2
      go_meet
      case rel => exact ⟨by rw [wr64 x4 (by omega) (by omega), wr64 x5 (by omega) (by omega), wr64 (256 * x5) (by omega) (by omega), wr64 (x4 + 256 * x5) (by omega) (by omega), HCn.out], ⟨rfl, rfl, rfl, Nat.le_refl _, fun _ _ => rfl⟩⟩
  case rest =>
    obtain ⟨rfl, BC⟩ := hcut
    clear c4 c5 b40 b41 b50 b51 HCn
    go_wp2
    go_loopw [4, 5, 6] (fun nn at_ vv wx => ∃ (k : Nat) (u : Value), k ≤ n ∧ nn = .int .i64 ((n : Int) - (k : Int)) ∧ at_ = .int .i64 ((pp s k : Nat) : Int) ∧ u = vv ∧ pp s k ≤ N ∧ Hid (wx.ownsRow w.heap.size 35 6 u k (cellsP (pO s) (pF s 0) (pF s 1) (pF s 2) (pF s 3) (pF s 4) k)) ∧ Hid (k = 0 → u = .slice none 0 0) ∧ Below w.heap.size w wx) (fun nn _ _ _ => (intOf nn).toNat)
    case atStart => exact ⟨0, .slice none 0 0, by omega, by simp, rfl, rfl, by show 6 ≤ N; omega, World.ownsRow_nil _ _ _ _, fun _ => rfl, BC⟩
    case round =>
      obtain ⟨k, u, hk, rfl, rfl, rfl, hpN, HU, HZ, BK⟩ := hrel
      by_cases hkn : k < n
      · have i1 : 0 < (n : Int) - (k : Int) := by omega
        have HPn : Hid (¬ (pp s (k + 1) ≤ N) → ¬ (N = pp s n + 2 ∧ n ≤ 600)) := fun h ⟨h1, _⟩ => by have := pp_mono s (k + 1) n (by omega); omega
        have HP1 : Hid (pp s (k + 1) = qs (s (pp s k)) (pp s k) 5) := rfl
        have HCS : Hid (cellsP (pO s) (pF s 0) (pF s 1) (pF s 2) (pF s 3) (pF s 4) (k + 1) = cellsP (pO s) (pF s 0) (pF s 1) (pF s 2) (pF s 3) (pF s 4) k ++ [.int .i64 (s (pp s k)), .int .i64 (pvl s (s (pp s k)) (pp s k) 0), .int .i64 (pvl s (s (pp s k)) (pp s k) 1), .int .i64 (pvl s (s (pp s k)) (pp s k) 2), .int .i64 (pvl s (s (pp s k)) (pp s k) 3), .int .u32 (pvl s (s (pp s k)) (pp s k) 4)]) := rfl
        generalize cellsP (pO s) (pF s 0) (pF s 1) (pF s 2) (pF s 3) (pF s 4) k = E at HU HCS
        generalize pp s k = P at hpN HP1 HCS ⊢
        by_cases hPN : N ≤ P
        · have hPN' : (N : Int) ≤ (P : Int) := by omega
          go_wp2
          go_ret2
          exact HNo.out _ BK (HPn.out (by rw [HP1.out]; have := (qs_le (s P) P 5).1; omega))
        have p1 : (P : Int) < (N : Int) := by omega
        have p0 : (0 : Int) ≤ (P : Int) := by omega
        have cP : wr.cell? ⟨g, P, none⟩ = some (.int .u8 (s P)) := by rw [HFz.out P (by omega)]; exact (BK.cell (p := ⟨g, P, none⟩) gl).trans (HOw.out.cell P (by omega))
        obtain ⟨o0, o1⟩ := HSt.out P
        obtain ⟨o, ho⟩ : ∃ o, s P = o := ⟨_, rfl⟩
        rw [ho] at cP o0 o1 HP1 HCS
        clear ho
        have HF47 : Hid (∀ v, Calls Tryd.prog 52 #[.int .i64 o] v fun e w' => e = .returned (.int .i64 (fN o)) ∧ w' = v) := fun v => fields47a o v
        have HBt : Hid (∀ j, j < 5 → (bits .and .i64 (fN o / 2 ^ (4 - j)) 1 == 0) = !nmd o j) := fN_zero o
        obtain ⟨F0, F1⟩ := fN_range o
        generalize fN o = F at HF47 HBt F0 F1
        have A0 : Own (wr.alloc (.cells #[.int .i64 o, .int .i64 0, .int .i64 0, .int .i64 0, .int .i64 0, .int .u32 0] 35)) wr.heap.size 6 (ins s o P 0) := own_new (fun i hi => by rcases (by omega : i = 0 ∨ i = 1 ∨ i = 2 ∨ i = 3 ∨ i = 4 ∨ i = 5) with rfl | rfl | rfl | rfl | rfl | rfl <;> rfl)
        have HA0 : Hid (Own (wr.alloc (.cells #[.int .i64 o, .int .i64 0, .int .i64 0, .int .i64 0, .int .i64 0, .int .u32 0] 35)) wr.heap.size 6 (ins s o P 0)) := A0
        have hbg : g < wr.heap.size := by have := BK.size; omega
        have HWB : Hid (Below wr.heap.size wr (wr.alloc (.cells #[.int .i64 o, .int .i64 0, .int .i64 0, .int .i64 0, .int .i64 0, .int .u32 0] 35))) := (Below.refl _ _).alloc (Nat.le_refl _) _
        clear A0
        go_wp2_with (go_at_call 52; refine (HF47.out _).mono ?_; rintro e w3 ⟨rfl, hw⟩; subst w3)
        obtain ⟨W, hW⟩ : ∃ W, wr.alloc (.cells #[.int .i64 o, .int .i64 0, .int .i64 0, .int .i64 0, .int .i64 0, .int .u32 0] 35) = W := ⟨_, rfl⟩
        obtain ⟨b, hb⟩ : ∃ b, wr.heap.size = b := ⟨_, rfl⟩
        rw [hW] at HA0 HWB ⊢
        rw [hb] at HA0 hbg ⊢
        have HBb : Hid (wr.heap.size = b) := hb
        have HK : Hid (Below w.heap.size w wr) := BK
        have HQ0 : P + 1 ≤ N := by omega
        have HQn : Hid (∀ j, j ≤ 5 → ¬ qs o P j ≤ N → ¬ (N = pp s n + 2 ∧ n ≤ 600)) := fun j hj h => HPn.out (by rw [HP1.out]; have := qs_mono o P j 5 hj; omega)
        clear hW hb BK cP
        go_loopw [5, 9] (fun at_ i wx => ∃ j : Nat, j ≤ 5 ∧ i = .int .i64 j ∧ at_ = .int .i64 ((qs o P j : Nat) : Int) ∧ qs o P j ≤ N ∧ Hid (Own wx b 6 (ins s o P j)) ∧ Hid (Only b wr wx)) (fun _ i _ => 5 - (intOf i).toNat)
        case atStart => exact ⟨0, by omega, rfl, by show Value.int .i64 ((P : Int) + 1) = .int .i64 (((P + 1 : Nat)) : Int); congr 1, HQ0, HA0, Only.ofBelow HWB.out⟩
        case round =>
          obtain ⟨j, hj, rfl, rfl, hqN, HA, HO⟩ := hrel
          by_cases hj5 : j < 5
          · have j1 : (j : Int) < 5 := by omega
            have j0 : (0 : Int) ≤ (j : Int) := by omega
            have hT := HBt.out j hj5
            have HSu : Hid (∀ x, nmd o j = x → qs o P (j + 1) = qs o P j + (if x then fldW j else 0) ∧ pvl s o P j = if x then num s (qs o P j) (fldW j) else 0) := fun x hx => by subst hx; exact ⟨rfl, rfl⟩
            have HQj := HQn.out (j + 1) (by omega)
            have HBd : Hid (Below w.heap.size w wr) := HK.out.trans (HO.out.below (by have := HK.out.size; have := HBb.out; omega) (by have := HK.out.size; omega))
            have HDt : Hid (∀ i, i < N → wr.cell? ⟨g, i, none⟩ = some (.int .u8 (s i))) := fun i hi => by rw [HFz.out i hi]; exact (HBd.out.cell (p := ⟨g, i, none⟩) gl).trans (HOw.out.cell i hi)
            cases hN : nmd o j
            · obtain ⟨e1, e2⟩ := HSu.out false hN
              have HE1 : Hid (qs o P (j + 1) = qs o P j) := by show _ = _; simpa using e1
              have HA' : Hid (Own wr b 6 (ins s o P (j + 1))) := HA.out.mono (Nat.le_refl _) (fun i hi => ins_off (by simpa using e2) i hi)
              rw [hN] at hT
              clear e1 e2 HSu hN HQj HDt
              go_wp2
              go_roundw
              case rel => exact ⟨j + 1, by omega, by go_num, by rw [HE1.out], by rw [HE1.out]; exact hqN, HA', HO⟩
              case measure => simp [intOf]; omega
            · obtain ⟨e1, e2⟩ := HSu.out true hN
              have HE1 : Hid (qs o P (j + 1) = qs o P j + fldW j) := by show _ = _; simpa using e1
              have HE2 : Hid (pvl s o P j = num s (qs o P j) (fldW j)) := by show _ = _; simpa using e2
              rw [hN] at hT
              rw [HE1.out] at HQj
              clear e1 e2 HSu hN
              have HWd : Hid (fldW j = if j = 4 then 4 else 2) := rfl
              generalize qs o P j = Q at hqN HE1 HE2 HQj ⊢
              rcases (by omega : j = 0 ∨ j = 1 ∨ j = 2 ∨ j = 3 ∨ j = 4) with jc | jc | jc | jc | jc
              · have hw : fldW j = 2 := by rw [HWd.out]; simp [jc]
                rw [hw] at HE1 HE2 HQj
                have f0 : ((j : Int) == 0) = true := by simp; omega
                have f1 : ((j : Int) == 1) = false := by simp; omega
                have f2 : ((j : Int) == 2) = false := by simp; omega
                have f3 : ((j : Int) == 3) = false := by simp; omega
                have f4 : ((j : Int) == 4) = false := by simp; omega
                have cA := HA.out.cell 1 (by omega)
                have fA := HA.out.free 1
                have cB : wr.cell? ⟨b, 1, none⟩ = some (.int .i64 0) := by rw [cA]; subst jc; rfl
                have HJC : Hid (j = _) := jc
                clear cA hw HWd jc
                by_cases hQW : Q + 2 ≤ N
                case neg =>
                  have hq' : (N : Int) < (Q : Int) + 2 := by omega
                  have HX := HNo.out _ HBd.out (HQj (by omega))
                  have HXX : Hid (SaysD w f N (.returned (.tuple #[.slice none 0 0, .bool false])) wr) := HX
                  clear HX HQj HDt
                  go_wp2
                  go_ret2
                  exact HXX.out
                have hq' : (Q : Int) + 2 ≤ (N : Int) := by omega
                have hq0 : (0 : Int) ≤ (Q : Int) := by omega
                have hq2 : decide ((N : Int) < (Q : Int) + 2) = false := by simp; omega
                clear HQj
                go_wp2
                go_loop [11, 12] (fun vv bb => ∃ z : Nat, z ≤ 2 ∧ bb = .int .i64 ((z : Int) - 1) ∧ vv = .int .i64 (num s (Q + z) (2 - z))) (fun _ bb => (intOf bb + 1).toNat)
                case atStart => exact ⟨2, by omega, rfl, rfl⟩
                case round =>
                  obtain ⟨z, hz, rfl, rfl⟩ := hrel
                  by_cases z0 : z = 0
                  case neg =>
                    obtain ⟨y, rfl⟩ : ∃ y, z = y + 1 := ⟨z - 1, by omega⟩
                    have y0 : (0 : Int) ≤ (y : Int) := by omega
                    have ey : (((y + 1 : Nat) : Int)) - 1 = (y : Int) := by omega
                    have HNS : Hid (num s (Q + y) (2 - y) = num s (Q + (y + 1)) (2 - (y + 1)) * 256 + s (Q + y)) := by
                      show _ = _
                      rw [show 2 - y = (2 - (y + 1)) + 1 by omega]
                      exact num_step s (Q + y) (2 - (y + 1))
                    obtain ⟨v0, v1⟩ := num_range HSt.out (2 - (y + 1)) (Q + (y + 1)) (by omega)
                    have v2 := (num_range HSt.out (2 - y) (Q + y) (by omega)).2
                    obtain ⟨s0, s1⟩ := HSt.out (Q + y)
                    have cy := HDt.out (Q + y) (by omega)
                    have hx0 : (0 : Int) ≤ (Q : Int) + (y : Int) := by omega
                    have hx1 : (Q : Int) + (y : Int) < (N : Int) := by omega
                    have hx2 : ((Q : Int) + (y : Int)).toNat = Q + y := by omega
                    rw [ey]
                    rw [HNS.out] at v2
                    generalize num s (Q + (y + 1)) (2 - (y + 1)) = V at v0 v1 v2 HNS ⊢
                    generalize s (Q + y) = sy at s0 s1 cy v2 HNS
                    go_wp2
                    go_round
                    case rel => exact ⟨y, by omega, rfl, by rw [HNS.out]⟩
                    case measure => simp [intOf]
                  subst z0
                  have HV : Hid (pvl s o P j = num s (Q + 0) (2 - 0)) := HE2.out
                  obtain ⟨v0, v1⟩ := num_range HSt.out (2 - 0) (Q + 0) (by omega)
                  generalize num s (Q + 0) (2 - 0) = V at v0 v1 HV ⊢
                  rw [show ((0 : Nat) : Int) - 1 = -1 from rfl]
                  go_wp2
                  have A' : Own (wr.setCell ⟨b, 1, none⟩ (.int .i64 V)) b 6 (ins s o P (j + 1)) := HA.out.set 1 _ (by omega) (fun i hi => by
                    have jc := HJC.out
                    subst jc
                    rw [← HV.out]
                    exact ins_on (by omega) i hi)
                  go_roundw
                  case rel => exact ⟨j + 1, by omega, by go_num, by rw [HE1.out]; go_num, by rw [HE1.out]; omega, A', HO.out.setCell 1 _⟩
                  case measure => simp [intOf]; omega
              · have hw : fldW j = 2 := by rw [HWd.out]; simp [jc]
                rw [hw] at HE1 HE2 HQj
                have f0 : ((j : Int) == 0) = false := by simp; omega
                have f1 : ((j : Int) == 1) = true := by simp; omega
                have f2 : ((j : Int) == 2) = false := by simp; omega
                have f3 : ((j : Int) == 3) = false := by simp; omega
                have f4 : ((j : Int) == 4) = false := by simp; omega
                have cA := HA.out.cell 2 (by omega)
                have fA := HA.out.free 2
                have cB : wr.cell? ⟨b, 2, none⟩ = some (.int .i64 0) := by rw [cA]; subst jc; rfl
                have HJC : Hid (j = _) := jc
                clear cA hw HWd jc
                by_cases hQW : Q + 2 ≤ N
                case neg =>
                  have hq' : (N : Int) < (Q : Int) + 2 := by omega
                  have HX := HNo.out _ HBd.out (HQj (by omega))
                  have HXX : Hid (SaysD w f N (.returned (.tuple #[.slice none 0 0, .bool false])) wr) := HX
                  clear HX HQj HDt
                  go_wp2
                  go_ret2
                  exact HXX.out
                have hq' : (Q : Int) + 2 ≤ (N : Int) := by omega
                have hq0 : (0 : Int) ≤ (Q : Int) := by omega
                have hq2 : decide ((N : Int) < (Q : Int) + 2) = false := by simp; omega
                clear HQj
                go_wp2
                go_loop [11, 12] (fun vv bb => ∃ z : Nat, z ≤ 2 ∧ bb = .int .i64 ((z : Int) - 1) ∧ vv = .int .i64 (num s (Q + z) (2 - z))) (fun _ bb => (intOf bb + 1).toNat)
                case atStart => exact ⟨2, by omega, rfl, rfl⟩
                case round =>
                  obtain ⟨z, hz, rfl, rfl⟩ := hrel
                  by_cases z0 : z = 0
                  case neg =>
                    obtain ⟨y, rfl⟩ : ∃ y, z = y + 1 := ⟨z - 1, by omega⟩
                    have y0 : (0 : Int) ≤ (y : Int) := by omega
                    have ey : (((y + 1 : Nat) : Int)) - 1 = (y : Int) := by omega
                    have HNS : Hid (num s (Q + y) (2 - y) = num s (Q + (y + 1)) (2 - (y + 1)) * 256 + s (Q + y)) := by
                      show _ = _
                      rw [show 2 - y = (2 - (y + 1)) + 1 by omega]
                      exact num_step s (Q + y) (2 - (y + 1))
                    obtain ⟨v0, v1⟩ := num_range HSt.out (2 - (y + 1)) (Q + (y + 1)) (by omega)
                    have v2 := (num_range HSt.out (2 - y) (Q + y) (by omega)).2
                    obtain ⟨s0, s1⟩ := HSt.out (Q + y)
                    have cy := HDt.out (Q + y) (by omega)
                    have hx0 : (0 : Int) ≤ (Q : Int) + (y : Int) := by omega
                    have hx1 : (Q : Int) + (y : Int) < (N : Int) := by omega
                    have hx2 : ((Q : Int) + (y : Int)).toNat = Q + y := by omega
                    rw [ey]
                    rw [HNS.out] at v2
                    generalize num s (Q + (y + 1)) (2 - (y + 1)) = V at v0 v1 v2 HNS ⊢
                    generalize s (Q + y) = sy at s0 s1 cy v2 HNS
                    go_wp2
                    go_round
                    case rel => exact ⟨y, by omega, rfl, by rw [HNS.out]⟩
                    case measure => simp [intOf]
                  subst z0
                  have HV : Hid (pvl s o P j = num s (Q + 0) (2 - 0)) := HE2.out
                  obtain ⟨v0, v1⟩ := num_range HSt.out (2 - 0) (Q + 0) (by omega)
                  generalize num s (Q + 0) (2 - 0) = V at v0 v1 HV ⊢
                  rw [show ((0 : Nat) : Int) - 1 = -1 from rfl]
                  go_wp2
                  have A' : Own (wr.setCell ⟨b, 2, none⟩ (.int .i64 V)) b 6 (ins s o P (j + 1)) := HA.out.set 2 _ (by omega) (fun i hi => by
                    have jc := HJC.out
                    subst jc
                    rw [← HV.out]
                    exact ins_on (by omega) i hi)
                  go_roundw
                  case rel => exact ⟨j + 1, by omega, by go_num, by rw [HE1.out]; go_num, by rw [HE1.out]; omega, A', HO.out.setCell 2 _⟩
                  case measure => simp [intOf]; omega
              · have hw : fldW j = 2 := by rw [HWd.out]; simp [jc]
                rw [hw] at HE1 HE2 HQj
                have f0 : ((j : Int) == 0) = false := by simp; omega
                have f1 : ((j : Int) == 1) = false := by simp; omega
                have f2 : ((j : Int) == 2) = true := by simp; omega
                have f3 : ((j : Int) == 3) = false := by simp; omega
                have f4 : ((j : Int) == 4) = false := by simp; omega
                have cA := HA.out.cell 3 (by omega)
                have fA := HA.out.free 3
                have cB : wr.cell? ⟨b, 3, none⟩ = some (.int .i64 0) := by rw [cA]; subst jc; rfl
                have HJC : Hid (j = _) := jc
                clear cA hw HWd jc
                by_cases hQW : Q + 2 ≤ N
                case neg =>
                  have hq' : (N : Int) < (Q : Int) + 2 := by omega
                  have HX := HNo.out _ HBd.out (HQj (by omega))
                  have HXX : Hid (SaysD w f N (.returned (.tuple #[.slice none 0 0, .bool false])) wr) := HX
                  clear HX HQj HDt
                  go_wp2
                  go_ret2
                  exact HXX.out
                have hq' : (Q : Int) + 2 ≤ (N : Int) := by omega
                have hq0 : (0 : Int) ≤ (Q : Int) := by omega
                have hq2 : decide ((N : Int) < (Q : Int) + 2) = false := by simp; omega
                clear HQj
                go_wp2
                go_loop [11, 12] (fun vv bb => ∃ z : Nat, z ≤ 2 ∧ bb = .int .i64 ((z : Int) - 1) ∧ vv = .int .i64 (num s (Q + z) (2 - z))) (fun _ bb => (intOf bb + 1).toNat)
                case atStart => exact ⟨2, by omega, rfl, rfl⟩
                case round =>
                  obtain ⟨z, hz, rfl, rfl⟩ := hrel
                  by_cases z0 : z = 0
                  case neg =>
                    obtain ⟨y, rfl⟩ : ∃ y, z = y + 1 := ⟨z - 1, by omega⟩
                    have y0 : (0 : Int) ≤ (y : Int) := by omega
                    have ey : (((y + 1 : Nat) : Int)) - 1 = (y : Int) := by omega
                    have HNS : Hid (num s (Q + y) (2 - y) = num s (Q + (y + 1)) (2 - (y + 1)) * 256 + s (Q + y)) := by
                      show _ = _
                      rw [show 2 - y = (2 - (y + 1)) + 1 by omega]
                      exact num_step s (Q + y) (2 - (y + 1))
                    obtain ⟨v0, v1⟩ := num_range HSt.out (2 - (y + 1)) (Q + (y + 1)) (by omega)
                    have v2 := (num_range HSt.out (2 - y) (Q + y) (by omega)).2
                    obtain ⟨s0, s1⟩ := HSt.out (Q + y)
                    have cy := HDt.out (Q + y) (by omega)
                    have hx0 : (0 : Int) ≤ (Q : Int) + (y : Int) := by omega
                    have hx1 : (Q : Int) + (y : Int) < (N : Int) := by omega
                    have hx2 : ((Q : Int) + (y : Int)).toNat = Q + y := by omega
                    rw [ey]
                    rw [HNS.out] at v2
                    generalize num s (Q + (y + 1)) (2 - (y + 1)) = V at v0 v1 v2 HNS ⊢
                    generalize s (Q + y) = sy at s0 s1 cy v2 HNS
                    go_wp2
                    go_round
                    case rel => exact ⟨y, by omega, rfl, by rw [HNS.out]⟩
                    case measure => simp [intOf]
                  subst z0
                  have HV : Hid (pvl s o P j = num s (Q + 0) (2 - 0)) := HE2.out
                  obtain ⟨v0, v1⟩ := num_range HSt.out (2 - 0) (Q + 0) (by omega)
                  generalize num s (Q + 0) (2 - 0) = V at v0 v1 HV ⊢
                  rw [show ((0 : Nat) : Int) - 1 = -1 from rfl]
                  go_wp2
                  have A' : Own (wr.setCell ⟨b, 3, none⟩ (.int .i64 V)) b 6 (ins s o P (j + 1)) := HA.out.set 3 _ (by omega) (fun i hi => by
                    have jc := HJC.out
                    subst jc
                    rw [← HV.out]
                    exact ins_on (by omega) i hi)
                  go_roundw
                  case rel => exact ⟨j + 1, by omega, by go_num, by rw [HE1.out]; go_num, by rw [HE1.out]; omega, A', HO.out.setCell 3 _⟩
                  case measure => simp [intOf]; omega
              · have hw : fldW j = 2 := by rw [HWd.out]; simp [jc]
                rw [hw] at HE1 HE2 HQj
                have f0 : ((j : Int) == 0) = false := by simp; omega
                have f1 : ((j : Int) == 1) = false := by simp; omega
                have f2 : ((j : Int) == 2) = false := by simp; omega
                have f3 : ((j : Int) == 3) = true := by simp; omega
                have f4 : ((j : Int) == 4) = false := by simp; omega
                have cA := HA.out.cell 4 (by omega)
                have fA := HA.out.free 4
                have cB : wr.cell? ⟨b, 4, none⟩ = some (.int .i64 0) := by rw [cA]; subst jc; rfl
                have HJC : Hid (j = _) := jc
                clear cA hw HWd jc
                by_cases hQW : Q + 2 ≤ N
                case neg =>
                  have hq' : (N : Int) < (Q : Int) + 2 := by omega
                  have HX := HNo.out _ HBd.out (HQj (by omega))
                  have HXX : Hid (SaysD w f N (.returned (.tuple #[.slice none 0 0, .bool false])) wr) := HX
                  clear HX HQj HDt
                  go_wp2
                  go_ret2
                  exact HXX.out
                have hq' : (Q : Int) + 2 ≤ (N : Int) := by omega
                have hq0 : (0 : Int) ≤ (Q : Int) := by omega
                have hq2 : decide ((N : Int) < (Q : Int) + 2) = false := by simp; omega
                clear HQj
                go_wp2
                go_loop [11, 12] (fun vv bb => ∃ z : Nat, z ≤ 2 ∧ bb = .int .i64 ((z : Int) - 1) ∧ vv = .int .i64 (num s (Q + z) (2 - z))) (fun _ bb => (intOf bb + 1).toNat)
                case atStart => exact ⟨2, by omega, rfl, rfl⟩
                case round =>
                  obtain ⟨z, hz, rfl, rfl⟩ := hrel
                  by_cases z0 : z = 0
                  case neg =>
                    obtain ⟨y, rfl⟩ : ∃ y, z = y + 1 := ⟨z - 1, by omega⟩
                    have y0 : (0 : Int) ≤ (y : Int) := by omega
                    have ey : (((y + 1 : Nat) : Int)) - 1 = (y : Int) := by omega
                    have HNS : Hid (num s (Q + y) (2 - y) = num s (Q + (y + 1)) (2 - (y + 1)) * 256 + s (Q + y)) := by
                      show _ = _
                      rw [show 2 - y = (2 - (y + 1)) + 1 by omega]
                      exact num_step s (Q + y) (2 - (y + 1))
                    obtain ⟨v0, v1⟩ := num_range HSt.out (2 - (y + 1)) (Q + (y + 1)) (by omega)
                    have v2 := (num_range HSt.out (2 - y) (Q + y) (by omega)).2
                    obtain ⟨s0, s1⟩ := HSt.out (Q + y)
                    have cy := HDt.out (Q + y) (by omega)
                    have hx0 : (0 : Int) ≤ (Q : Int) + (y : Int) := by omega
                    have hx1 : (Q : Int) + (y : Int) < (N : Int) := by omega
                    have hx2 : ((Q : Int) + (y : Int)).toNat = Q + y := by omega
                    rw [ey]
                    rw [HNS.out] at v2
                    generalize num s (Q + (y + 1)) (2 - (y + 1)) = V at v0 v1 v2 HNS ⊢
                    generalize s (Q + y) = sy at s0 s1 cy v2 HNS
                    go_wp2
                    go_round
                    case rel => exact ⟨y, by omega, rfl, by rw [HNS.out]⟩
                    case measure => simp [intOf]
                  subst z0
                  have HV : Hid (pvl s o P j = num s (Q + 0) (2 - 0)) := HE2.out
                  obtain ⟨v0, v1⟩ := num_range HSt.out (2 - 0) (Q + 0) (by omega)
                  generalize num s (Q + 0) (2 - 0) = V at v0 v1 HV ⊢
                  rw [show ((0 : Nat) : Int) - 1 = -1 from rfl]
                  go_wp2
                  have A' : Own (wr.setCell ⟨b, 4, none⟩ (.int .i64 V)) b 6 (ins s o P (j + 1)) := HA.out.set 4 _ (by omega) (fun i hi => by
                    have jc := HJC.out
                    subst jc
                    rw [← HV.out]
                    exact ins_on (by omega) i hi)
                  go_roundw
                  case rel => exact ⟨j + 1, by omega, by go_num, by rw [HE1.out]; go_num, by rw [HE1.out]; omega, A', HO.out.setCell 4 _⟩
                  case measure => simp [intOf]; omega
              · have hw : fldW j = 4 := by rw [HWd.out]; simp [jc]
                rw [hw] at HE1 HE2 HQj
                have f0 : ((j : Int) == 0) = false := by simp; omega
                have f1 : ((j : Int) == 1) = false := by simp; omega
                have f2 : ((j : Int) == 2) = false := by simp; omega
                have f3 : ((j : Int) == 3) = false := by simp; omega
                have f4 : ((j : Int) == 4) = true := by simp; omega
                have cA := HA.out.cell 5 (by omega)
                have fA := HA.out.free 5
                have cB : wr.cell? ⟨b, 5, none⟩ = some (.int .u32 0) := by rw [cA]; subst jc; rfl
                have HJC : Hid (j = _) := jc
                clear cA hw HWd jc
                by_cases hQW : Q + 4 ≤ N
                case neg =>
                  have hq' : (N : Int) < (Q : Int) + 4 := by omega
                  have HX := HNo.out _ HBd.out (HQj (by omega))
                  have HXX : Hid (SaysD w f N (.returned (.tuple #[.slice none 0 0, .bool false])) wr) := HX
                  clear HX HQj HDt
                  go_wp2
                  go_ret2
                  exact HXX.out
                have hq' : (Q : Int) + 4 ≤ (N : Int) := by omega
                have hq0 : (0 : Int) ≤ (Q : Int) := by omega
                have hq2 : decide ((N : Int) < (Q : Int) + 4) = false := by simp; omega
                clear HQj
                go_wp2
                go_loop [11, 12] (fun vv bb => ∃ z : Nat, z ≤ 4 ∧ bb = .int .i64 ((z : Int) - 1) ∧ vv = .int .i64 (num s (Q + z) (4 - z))) (fun _ bb => (intOf bb + 1).toNat)
                case atStart => exact ⟨4, by omega, rfl, rfl⟩
                case round =>
                  obtain ⟨z, hz, rfl, rfl⟩ := hrel
                  by_cases z0 : z = 0
                  case neg =>
                    obtain ⟨y, rfl⟩ : ∃ y, z = y + 1 := ⟨z - 1, by omega⟩
                    have y0 : (0 : Int) ≤ (y : Int) := by omega
                    have ey : (((y + 1 : Nat) : Int)) - 1 = (y : Int) := by omega
                    have HNS : Hid (num s (Q + y) (4 - y) = num s (Q + (y + 1)) (4 - (y + 1)) * 256 + s (Q + y)) := by
                      show _ = _
                      rw [show 4 - y = (4 - (y + 1)) + 1 by omega]
                      exact num_step s (Q + y) (4 - (y + 1))
                    obtain ⟨v0, v1⟩ := num_range HSt.out (4 - (y + 1)) (Q + (y + 1)) (by omega)
                    have v2 := (num_range HSt.out (4 - y) (Q + y) (by omega)).2
                    obtain ⟨s0, s1⟩ := HSt.out (Q + y)
                    have cy := HDt.out (Q + y) (by omega)
                    have hx0 : (0 : Int) ≤ (Q : Int) + (y : Int) := by omega
                    have hx1 : (Q : Int) + (y : Int) < (N : Int) := by omega
                    have hx2 : ((Q : Int) + (y : Int)).toNat = Q + y := by omega
                    rw [ey]
                    rw [HNS.out] at v2
                    generalize num s (Q + (y + 1)) (4 - (y + 1)) = V at v0 v1 v2 HNS ⊢
                    generalize s (Q + y) = sy at s0 s1 cy v2 HNS
                    go_wp2
                    go_round
                    case rel => exact ⟨y, by omega, rfl, by rw [HNS.out]⟩
                    case measure => simp [intOf]
                  subst z0
                  have HV : Hid (pvl s o P j = num s (Q + 0) (4 - 0)) := HE2.out
                  obtain ⟨v0, v1⟩ := num_range HSt.out (4 - 0) (Q + 0) (by omega)
                  generalize num s (Q + 0) (4 - 0) = V at v0 v1 HV ⊢
                  rw [show ((0 : Nat) : Int) - 1 = -1 from rfl]
                  go_wp2
                  have A' : Own (wr.setCell ⟨b, 5, none⟩ (.int .u32 V)) b 6 (ins s o P (j + 1)) := HA.out.set 5 _ (by omega) (fun i hi => by
                    have jc := HJC.out
                    subst jc
                    rw [← HV.out]
                    exact ins_on4 i hi)
                  go_roundw
                  case rel => exact ⟨j + 1, by omega, by go_num, by rw [HE1.out]; go_num, by rw [HE1.out]; omega, A', HO.out.setCell 5 _⟩
                  case measure => simp [intOf]; omega
          · have hjj : j = 5 := by omega
            subst hjj
            rw [show ((5 : Nat) : Int) = 5 from rfl]
            have a0 : wr.cell? ⟨b, 0, none⟩ = some (.int .i64 o) := HA.out.cell 0 (by omega)
            have a1 : wr.cell? ⟨b, 1, none⟩ = some (.int .i64 (pvl s o P 0)) := HA.out.cell 1 (by omega)
            have a2 : wr.cell? ⟨b, 2, none⟩ = some (.int .i64 (pvl s o P 1)) := HA.out.cell 2 (by omega)
            have a3 : wr.cell? ⟨b, 3, none⟩ = some (.int .i64 (pvl s o P 2)) := HA.out.cell 3 (by omega)
            have a4 : wr.cell? ⟨b, 4, none⟩ = some (.int .i64 (pvl s o P 3)) := HA.out.cell 4 (by omega)
            have a5 : wr.cell? ⟨b, 5, none⟩ = some (.int .u32 (pvl s o P 4)) := HA.out.cell 5 (by omega)
            have hne : u.ownBlock ≠ some b := fun e => by have := (HU.out.lt _ e).2; have := HBb.out; omega
            have U2 : Hid (wr.ownsRow w.heap.size 35 6 u k E) := HU.out.kept ⟨HO.out.os, HO.out.tape, HO.out.output, HO.out.size, fun x hx hq => HO.out.block x hx (fun e => hq (by rw [e]))⟩ (Or.inr hne)
            have HBd : Hid (Below w.heap.size w wr) := HK.out.trans (HO.out.below (by have := HK.out.size; have := HBb.out; omega) (by have := HK.out.size; omega))
            have hz := HBd.out.size
            go_wp2_with (at_builtin; refine wpList_append_lies _ rfl _ _ 25 rfl w.heap.size 35 i5 (.agg #[.int .i64 0, .int .i64 0, .int .i64 0, .int .i64 0, .int .i64 0, .int .u32 0]) 6 48 Tryd.underlying25 hi5 hz50 hz51 hz52 rfl (by decide) _ _ _ rfl (U2.out.alloc _) ⟨wr.heap.size, 0, none⟩ 1 1 [.int .i64 o, .int .i64 (pvl s o P 0), .int .i64 (pvl s o P 1), .int .i64 (pvl s o P 2), .int .i64 (pvl s o P 3), .int .u32 (pvl s o P 4)] rfl rfl ?c1 ?c2 (by decide) ?c3 ?c4 ?c5 _ rfl ?_)
            case c1 =>
              intro j x hj
              match j, hj with
              | 0, hj => simp at hj; subst hj; simp [Addr.add]
              | 1, hj => simp at hj; subst hj; simp [Addr.add]
              | 2, hj => simp at hj; subst hj; simp [Addr.add]
              | 3, hj => simp at hj; subst hj; simp [Addr.add]
              | 4, hj => simp at hj; subst hj; simp [Addr.add]
              | 5, hj => simp at hj; subst hj; simp [Addr.add]
              | (j + 6), hj => simp at hj
            case c2 =>
              intro x hx
              simp at hx
              rcases hx with rfl | rfl | rfl | rfl | rfl | rfl <;> rfl
            case c3 => unfold maxLen; omega
            case c4 => omega
            case c5 => simp; omega
            intro g9 cap9 w9 hown hgrow hat hlt
            have U9 : Hid (w9.ownsRow w.heap.size 35 6 (.slice (some ⟨g9, 0, none⟩) (k + 1) cap9) (k + 1) (cellsP (pO s) (pF s 0) (pF s 1) (pF s 2) (pF s 3) (pF s 4) (k + 1))) := by
              show World.ownsRow _ _ _ _ _ _ _
              rw [HCS.out]
              exact hown
            have B9 : Hid (Below w.heap.size w w9) := (HBd.out.alloc hz _).grown hgrow (by simp; omega) (fun g' hg' => (HU.out.lt g' hg').1)
            clear hown hgrow hat hlt a0 a1 a2 a3 a4 a5
            go_wp2
            go_roundw
            case rel => exact ⟨k + 1, _, by omega, by go_num, by rw [HP1.out], rfl, by rw [HP1.out]; exact hqN, U9, fun h => by omega, B9.out⟩
            case measure => simp [intOf]; omega
      · have hkk : k = n := by omega
        subst hkk
        rw [show (k : Int) - (k : Int) = 0 by omega]
        by_cases k0 : k = 0
        · have hu := HZ.out k0
          subst hu
          have HG0 : Hid (gdP s k = false) := by
            show _ = _
            unfold gdP goodC
            rw [decide_eq_false (by omega)]
            rfl
          have h9 := good9_nil wr
          go_wp2_with (go_at_call 10; refine h9.mono ?_; rintro e w3 ⟨rfl, B3⟩)
          go_ret2
          exact HNo2.out _ (BK.trans (B3.mono BK.size)) HG0.out
        obtain ⟨gu, cu, rfl, hgu, hgl⟩ := World.ownsRow.form HU.out (by omega)
        have RI : Hid (RowI wr gu k (pO s) (pF s 0) (pF s 1) (pF s 2) (pF s 3) (pF s 4)) := rowI_of HU.out
        cases hG : gdP s k
        · have h9 : Hid (Calls Tryd.prog 10 #[.slice (some ⟨gu, 0, none⟩) k cu] wr fun e w' => e = .returned (.bool false) ∧ Below wr.heap.size wr w') := by
            have h := good9 k gu cu _ _ _ _ _ _ wr RI.out (wds_p HSt.out k) (by omega)
            rw [show goodC (pO s) (pF s 0) (pF s 1) (pF s 2) (pF s 3) (pF s 4) k = false from hG] at h
            exact h
          have HG0 : Hid (gdP s k = false) := hG
          clear hG
          go_wp2_with (go_at_call 10; refine h9.out.mono ?_; rintro e w3 ⟨rfl, B3⟩)
          go_ret2
          exact HNo2.out _ (BK.trans (B3.mono BK.size)) HG0.out
        have hbd := goodC_bds hG
        have h9 : Hid (Calls Tryd.prog 10 #[.slice (some ⟨gu, 0, none⟩) k cu] wr fun e w' => e = .returned (.bool true) ∧ Below wr.heap.size wr w') := by
          have h := good9 k gu cu _ _ _ _ _ _ wr RI.out (wds_p HSt.out k) (by omega)
          rw [show goodC (pO s) (pF s 0) (pF s 1) (pF s 2) (pF s 3) (pF s 4) k = true from hG] at h
          exact h
        have h42 : Hid (∀ v, Below wr.heap.size wr v → Calls Tryd.prog 46 #[.slice (some ⟨gu, 0, none⟩) k cu] v fun e w' => ∃ x, e = .returned x ∧ Rb v.heap.size w' x (enP s k) ∧ Below v.heap.size v w') := fun v b => bytes42 k gu cu _ _ _ _ _ _ v (RI.out.next b) hbd.2.2 hbd.1
        have HG0 : Hid (gdP s k = true) := hG
        have HK6 : Hid (k ≤ 600) := hbd.1
        have HPo : Hid (0 < (enP s k).length) := by show _ < _; rw [enP_len]; omega
        have HRV : Hid (∀ w', Below wr.heap.size wr w' → RowIV w' (.slice (some ⟨gu, 0, none⟩) k cu) k (pO s) (pF s 0) (pF s 1) (pF s 2) (pF s 3) (pF s 4)) := fun w' b => Or.inr ⟨gu, cu, rfl, RI.out.next b⟩
        clear hG hbd
        generalize enP s k = E at h42 HPo HNo3 HYs
        have HLD : Hid ((dl f N).length = N) := by show _ = _; simp [dl]
        by_cases hEN : E.length = N
        case neg =>
          have he : ((E.length : Int) == (N : Int)) = false := by simp; omega
          have he2 : ((E.length : Int) != (N : Int)) = true := by simp; omega
          have HE : Hid (¬ E = dl f N) := fun h => hEN (by rw [h, HLD.out])
          go_wp2_with (first | (go_at_call 10; refine h9.out.mono ?_; rintro e w3 ⟨rfl, B3⟩) | (go_at_call 46; refine (h42.out w3 B3).mono ?_; rintro e w4 ⟨x4, rfl, R4, B4⟩; (obtain ⟨gg, cc, rfl, _, _⟩ := World.ownsRow.form R4.1 HPo.out)))
          go_ret2
          exact HNo3.out _ ((BK.trans (B3.mono BK.size)).trans (B4.mono (by have := BK.size; have := B3.size; omega))) HE.out
        have HEN : Hid (E.length = N) := hEN
        rw [hEN] at HPo
        have h42' : Hid (∀ v, Below wr.heap.size wr v → Calls Tryd.prog 46 #[.slice (some ⟨gu, 0, none⟩) k cu] v fun e w' => ∃ gg cc, e = .returned (.slice (some ⟨gg, 0, none⟩) N cc) ∧ Hid (∀ i, i < N → w'.cell? ⟨gg, i, none⟩ = some (.int .u8 (E.getD i 0))) ∧ gg < w'.heap.size ∧ Below v.heap.size v w') := fun v b => by
          refine (h42.out v b).mono ?_
          rintro e w' ⟨x, rfl, r, b'⟩
          obtain ⟨gg, cc, rfl, _, hl⟩ := World.ownsRow.form r.1 (by rw [HEN.out]; exact HPo.out)
          refine ⟨gg, cc, by rw [HEN.out], fun i hi => ?_, hl, b'⟩
          rw [r.1.cellAt i (by rw [HEN.out]; omega)]
          unfold bl
          rw [List.getElem?_map, List.getD_eq_getElem?_getD, List.getElem?_eq_getElem (by rw [HEN.out]; exact hi)]
          rfl
        clear h42 hEN
        go_wp2_with (first | (go_at_call 10; refine h9.out.mono ?_; rintro e w3 ⟨rfl, B3⟩) | (go_at_call 46; refine (h42'.out w3 B3).mono ?_; rintro e w4 ⟨gg, cc, rfl, C4, hl4, B4⟩))
        have HB4 : Hid (Below w.heap.size w w4) := (BK.trans (B3.mono BK.size)).trans (B4.mono (by have := BK.size; have := B3.size; omega))
        have HRW : Hid (Below wr.heap.size wr w4) := B3.trans (B4.mono B3.size)
        have gl4 : g < w4.heap.size := by have := HB4.out.size; omega
        have HD4 : Hid (∀ i, i < N → w4.cell? ⟨g, i, none⟩ = some (.int .u8 (f i))) := fun i hi => (HB4.out.cell (p := ⟨g, i, none⟩) gl).trans (HOw.out.cell i hi)
        have HFin : Hid ((∀ i, i < N → E.getD i 0 = f i) → E = dl f N) := fun h => by
          apply List.ext_getElem
          · rw [HEN.out, HLD.out]
          · intro i h1 h2
            have := h i (by rw [← HEN.out]; exact h1)
            rw [List.getD_eq_getElem?_getD, List.getElem?_eq_getElem h1] at this
            simpa [dl] using this
        clear B3 B4 BK
        go_loopw [126] (fun i wx => ∃ t : Nat, t ≤ N ∧ i = .int .i64 t ∧ Hid (∀ i, i < t → E.getD i 0 = f i) ∧ Below w4.heap.size w4 wx) (fun i _ => N - (intOf i).toNat)
        case atStart => exact ⟨0, by omega, rfl, fun i hi => by omega, Below.refl _ _⟩
        case round =>
          obtain ⟨t, ht, rfl, HT, BT⟩ := hrel
          by_cases htN : t < N
          · have t1 : (t : Int) < (N : Int) := by omega
            have t0 : (0 : Int) ≤ (t : Int) := by omega
            have ce := (BT.cell (p := ⟨gg, t, none⟩) hl4).trans (C4.out t htN)
            have cf := (BT.cell (p := ⟨g, t, none⟩) gl4).trans (HD4.out t htN)
            have BTd : Hid (Below w4.heap.size w4 wr.drew) := ⟨BT.os, BT.tape, BT.output, BT.size, BT.block⟩
            by_cases he : E.getD t 0 = f t
            · have HT' : Hid (∀ i, i < t + 1 → E.getD i 0 = f i) := fun i hi => by
                by_cases e : i = t
                · subst e; exact he
                · exact HT.out i (by omega)
              rw [he] at ce
              generalize f t = y at ce cf
              clear he
              go_wp2
              go_region_held3 (fun v => v.cell? ⟨gg, t, none⟩ = some (.int .u8 y) ∧ v.cell? ⟨g, t, none⟩ = some (.int .u8 y)) (first | with_reducible exact ⟨ce, cf⟩ | (go_keep; done)) (fail)
              all_goals
                go_wp2
                go_roundw
                case rel => exact ⟨t + 1, by omega, by go_num, HT', BTd.out⟩
                case measure => simp [intOf]; omega
            · have HE : Hid (¬ E = dl f N) := fun h => he (by rw [h]; simp [dl, htN])
              have h1 : (E.getD t 0 == f t) = false := by simpa using he
              have h2 : (E.getD t 0 != f t) = true := by simpa using he
              generalize E.getD t 0 = x at ce h1 h2
              generalize f t = y at cf h1 h2
              clear he
              go_wp2
              go_region_held3 (fun v => v.cell? ⟨gg, t, none⟩ = some (.int .u8 x) ∧ v.cell? ⟨g, t, none⟩ = some (.int .u8 y)) (first | with_reducible exact ⟨ce, cf⟩ | (go_keep; done)) (fail)
              all_goals
                go_wp2
                go_ret2
                exact HNo3.out _ (HB4.out.trans (BTd.out.mono HB4.out.size)) HE.out
          · have htt : t = N := by omega
            subst htt
            go_wp2
            go_ret2
            exact HYs.out _ _ HK6.out HG0.out (HFin.out HT.out) (HRV.out _ (HRW.out.trans (BT.mono HRW.out.size))) (fun g' hg' => by simp [Value.ownBlock] at hg'; omega) (HB4.out.trans (BT.mono HB4.out.size))
end Go.Proofs.YtablacgmedkgjaaDoor
