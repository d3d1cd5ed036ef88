/- FollowMoves: what is followed. -/
import Derived.Test.YtcgapochcahknaaDoorMvb
namespace Go.Proofs.YtcgapochcahknaaDoor
open Go.ChangeShapes Go.WideShapes Go.ChangeAt Go.RowKit
set_option linter.unusedVariables false
/-- The cells of an instruction. -/
def insV (o d a b c x : Int) : Nat → Value
  | 0 => .int .i64 o
  | 1 => .int .i64 d
  | 2 => .int .i64 a
  | 3 => .int .i64 b
  | 4 => .int .i64 c
  | _ => .int .u32 x
theorem insV_one (o d a b c x : Int) (i : Nat) : (insV o d a b c x i).oneCell' = true := by
  unfold insV
  split <;> rfl
theorem size40 : (Tryd.prog.info? 35).map (·.size) = some 6 := by kernel_rfl
theorem size74 : (Tryd.prog.info? 93).map (·.size) = some 5 := by kernel_rfl
theorem own_arr (w : World) (f : Nat → Value) (n : Nat) (cs : Array Value) (t : TypeId) (H : Nat) (hH : w.heap.size = H) (hc : vals f n = cs) : Own (w.alloc (.cells cs t)) H n f := by
  subst hH hc
  exact own_vals w f n t
theorem ins6 (o d a b c x : Int) : vals (insV o d a b c x) 6 = #[.int .i64 o, .int .i64 d, .int .i64 a, .int .i64 b, .int .i64 c, .int .u32 x] := rfl
theorem ints5 (f : Nat → Int) : vals (fun i => .int .i64 (f i)) 5 = #[.int .i64 (f 0), .int .i64 (f 1), .int .i64 (f 2), .int .i64 (f 3), .int .i64 (f 4)] := rfl
theorem only_far {q p : Nat} {w v v' : World} (h : Only q w v) (k : Only p v v') (hp : w.heap.size ≤ p) : Only q w v' :=
  ⟨k.os.trans h.os, k.tape.trans h.tape, k.output.trans h.output, Nat.le_trans h.size k.size, fun i hi hq => (k.block i (by have := h.size; omega) (by omega)).trans (h.block i hi hq)⟩
theorem val_ops (o d a b c x : Int) (j : Nat) (h : j < kN o x) : (opsL o a b c x).getD j 0 = val d a b c x (1 + j) := by
  rw [opsL_take]
  have hk := kN_le o x
  have e : ([a, b, c].take (kN o x)).getD j 0 = [a, b, c].getD j 0 := by
    rw [List.getD_eq_getElem?_getD, List.getD_eq_getElem?_getD, List.getElem?_take_of_lt h]
  rw [e]
  rcases (by omega : j = 0 ∨ j = 1 ∨ j = 2) with rfl | rfl | rfl <;> rfl
/-- The fields once the first j reads are followed. -/
def flV (F : Nat → Int) (d a b c x : Int) (j f : Nat) : Int := if 1 ≤ f ∧ f < 1 + j then F (val d a b c x f).toNat else val d a b c x f
theorem flV_next (F : Nat → Int) (d a b c x : Int) (j f : Nat) : flV F d a b c x (j + 1) f = if f = 1 + j then F (val d a b c x (1 + j)).toNat else flV F d a b c x j f := by
  unfold flV
  by_cases e : f = 1 + j
  · subst e; rw [if_pos (by omega), if_pos rfl]
  · rw [if_neg e]
    by_cases e2 : 1 ≤ f ∧ f < 1 + j
    · rw [if_pos e2, if_pos (by omega)]
    · rw [if_neg e2, if_neg (by omega)]
theorem flV_mv (F : Nat → Int) (d a b c x : Int) (j i : Nat) : flV F d a b c x j (1 + i) = mvV F j i (val d a b c x (1 + i)) := by
  unfold flV mvV
  by_cases e : i < j
  · rw [if_pos (by omega), if_pos e]
  · rw [if_neg (by omega), if_neg e]
theorem mvS_none {F : Nat → Int} {o d a : Int} (h : nmd o 0 = false) : mvS F o d a = F := by funext r; unfold mvS; rw [h]; rfl
theorem mvS_fg {F : Nat → Int} {o d a : Int} (h : nmd o 0 = true) (h2 : o ≠ 2) (d0 : 0 ≤ d) : mvS F o d a = fgF F d := by
  funext r
  unfold mvS fgF
  rw [h, if_pos rfl, if_neg h2]
  by_cases e : r = d.toNat
  · rw [if_pos e, if_pos (Or.inl e)]; omega
  · rw [if_neg e]
    by_cases e2 : F r = d
    · rw [if_pos e2, if_pos (Or.inr e2)]
    · rw [if_neg e2, if_neg (by omega)]
theorem mvS_mv {F : Nat → Int} {d a : Int} (r : Nat) : mvS F 2 d a r = if r = d.toNat then a else fgF F d r := by
  unfold mvS fgF
  rw [show nmd 2 0 = true by rfl, if_pos rfl, if_pos rfl]
  by_cases e : r = d.toNat
  · rw [if_pos e, if_pos e]
  · rw [if_neg e, if_neg e]
    by_cases e2 : F r = d
    · rw [if_pos e2, if_pos (Or.inr e2)]
    · rw [if_neg e2, if_neg (by omega)]
set_option maxRecDepth 100000 in
set_option maxHeartbeats 8000000 in
theorem followed63 (q : Nat) (F : Nat → Int) (o d a b c x : Int) (w : World) (G : Forms w) (OS : Own w q 400 (fun r => .int .i64 (F r))) (x0 : 0 ≤ x) (x1 : x < 4294967296) (ho : 1 ≤ o ∧ o ≤ 13) (h4 : o = 4 → 1 ≤ ar (calW x)) (hr : ∀ y, y ∈ opsL o a b c x → 0 ≤ y ∧ y < 400) (d0 : 0 ≤ d) (d1 : d < 400) : Calls Tryd.prog 66 #[.pointer (some ⟨q, 0, none⟩), .agg #[.int .i64 o, .int .i64 d, .int .i64 a, .int .i64 b, .int .i64 c, .int .u32 x]] w fun e w' => e = .returned (.agg #[.int .i64 o, .int .i64 d, .int .i64 (mvV F (kN o x) 0 a), .int .i64 (mvV F (kN o x) 1 b), .int .i64 (mvV F (kN o x) 2 c), .int .u32 x]) ∧ Own w' q 400 (fun r => .int .i64 (mvS F o d (mvV F (kN o x) 0 a) r)) ∧ Only q w w' := by
  have HQ0 : q < w.heap.size := OS.hi
  obtain ⟨W, hW⟩ : ∃ W, (w.alloc (.cells #[.int .i64 o, .int .i64 d, .int .i64 a, .int .i64 b, .int .i64 c, .int .u32 x] 35)).alloc (.cells #[.int .i64 0, .int .i64 0, .int .i64 0, .int .i64 0, .int .i64 0, .int .u32 0] 35) = W := ⟨_, rfl⟩
  obtain ⟨q3, hq3⟩ : ∃ q3, w.heap.size = q3 := ⟨_, rfl⟩
  have HQ : Hid (q < q3) := by show _ < _; rw [← hq3]; exact HQ0
  clear HQ0
  have hWs : W.heap.size = q3 + 2 := by rw [← hW, ← hq3]; simp
  have HBW : Hid (Below w.heap.size w W) := by show Below _ _ _; rw [← hW]; exact ((Below.refl _ _).alloc (Nat.le_refl _) _).alloc (by simp) _
  have OI : Hid (Own W q3 6 (insV o d a b c x)) := by
    have h := own_arr w (insV o d a b c x) 6 #[.int .i64 o, .int .i64 d, .int .i64 a, .int .i64 b, .int .i64 c, .int .u32 x] 35 q3 hq3 rfl
    have h2 := h.next (w' := W) (by rw [← hW]; exact (Below.refl _ _).alloc (Nat.le_refl _) _)
    exact h2
  have OZ : Hid (Own W (q3 + 1) 6 (insV 0 0 0 0 0 0)) := by
    have h := own_arr (w.alloc (.cells #[.int .i64 o, .int .i64 d, .int .i64 a, .int .i64 b, .int .i64 c, .int .u32 x] 35)) (insV 0 0 0 0 0 0) 6 #[.int .i64 0, .int .i64 0, .int .i64 0, .int .i64 0, .int .i64 0, .int .u32 0] 35 (q3 + 1) (by simp [hq3]) rfl
    rw [hW] at h
    exact h
  have OSW : Hid (Own W q 400 (fun r => .int .i64 (F r))) := OS.next HBW.out
  have HFW : Hid (∀ v, Below W.heap.size W v → Forms v) := fun v k => (G.below HBW.out).below k
  have h71 := vals44 o d a b c x W x0 x1
  have H83 : Hid (∀ v, Forms v → Calls Tryd.prog 95 #[.agg #[.int .i64 o, .int .i64 d, .int .i64 a, .int .i64 b, .int .i64 c, .int .u32 x]] v fun e w' => ∃ u, e = .returned u ∧ IOwn v.heap.size w' u (opsL o a b c x) ∧ Below v.heap.size v w') := fun v g => operands38 o d a b c x v g x0 x1 ho h4
  have HLk : Hid ((opsL o a b c x).length = kN o x) := opsL_kN o a b c x
  have HLv : Hid (∀ j, j < kN o x → (opsL o a b c x).getD j 0 = val d a b c x (1 + j) ∧ 0 ≤ val d a b c x (1 + j) ∧ val d a b c x (1 + j) < 400) := fun j hj => by
    have e := val_ops o d a b c x j hj
    have hl : j < (opsL o a b c x).length := by rw [opsL_kN]; exact hj
    refine ⟨e, ?_⟩
    rw [← e]
    exact hr _ (by simp [List.getD, hl])
  have hk3 := kN_le o x
  have HM : Hid (∀ i v, mvV F (kN o x) i v = if i < kN o x then F v.toNat else v) := fun i v => rfl
  clear OS G hr h4 ho
  generalize opsL o a b c x = L at H83 HLk HLv
  generalize kN o x = kn at HLk HLv hk3 HM ⊢
  go_enter Tryd.func66, Tryd.ntmps66
  go_wp2_with (first | (refine wpList_load_own rfl 35 _ rfl q3 rfl 6 (insV o d a b c x) _ (by first | exact OI.out | exact OI3) Tryd.underlying35 rfl size40 ?_; simp only [ins6]) | (go_at_call 72; refine h71.mono ?_; rintro e w2 ⟨rfl, B2⟩; have BAl : Below w2.heap.size w2 (w2.alloc (.cells #[.int .i64 d, .int .i64 a, .int .i64 b, .int .i64 c, .int .i64 x] 93)) := (Below.refl _ _).alloc (Nat.le_refl _) _; have B23 : Below W.heap.size W (w2.alloc (.cells #[.int .i64 d, .int .i64 a, .int .i64 b, .int .i64 c, .int .i64 x] 93)) := B2.trans (BAl.mono B2.size); have OI3 : Own (w2.alloc (.cells #[.int .i64 d, .int .i64 a, .int .i64 b, .int .i64 c, .int .i64 x] 93)) q3 6 (insV o d a b c x) := OI.out.next B23) | (go_at_call 95; refine (H83.out _ (HFW.out _ B23)).mono ?_; rintro e w4 ⟨v4, rfl, I4, B4⟩; obtain ⟨ad4, cp4, rfl⟩ := I4.row.is))
  obtain ⟨q5, hq5⟩ : ∃ q5, w2.heap.size = q5 := ⟨_, rfl⟩
  have HS5 : Hid (q3 + 2 ≤ q5) := by have := B2.size; show _ ≤ _; omega
  have O5 : Hid (Own w4 q5 5 (fun f => .int .i64 (flV F d a b c x 0 f))) := by
    have h : Own (w2.alloc (.cells #[.int .i64 d, .int .i64 a, .int .i64 b, .int .i64 c, .int .i64 x] 93)) q5 5 (fun f => .int .i64 (flV F d a b c x 0 f)) := own_arr w2 _ 5 _ 93 q5 hq5 rfl
    exact h.next B4
  have BW4 : Hid (Below W.heap.size W w4) := B23.trans (B4.mono (by have := B23.size; omega))
  have HI4 : Hid (IOwn (q5 + 1) w4 (.slice ad4 L.length cp4) L) := by
    rcases I4 with h | ⟨g, cc, h1, h2, h3, h5⟩
    · exact Or.inl h
    · exact Or.inr ⟨g, cc, h1, h2, by simp at h3; omega, h5⟩
  rw [hq5]
  clear h71 H83 B2 BAl B23 OI3 I4 B4 hW hq5
  have HWs : Hid (W.heap.size = q3 + 2) := hWs
  clear hWs
  rw [HLk.out] at HI4 ⊢
  go_loopw [13] (fun i wx => ∃ j : Nat, j ≤ kn ∧ i = .int .i64 j ∧ Hid (Own wx q5 5 (fun f => .int .i64 (flV F d a b c x j f))) ∧ Hid (Only q5 w4 wx)) (fun i _ => kn - (intOf i).toNat)
  case atStart => exact ⟨0, by omega, rfl, O5, Only.refl _ _⟩
  case round =>
    obtain ⟨j, hj, rfl, OJ, KJ⟩ := hrel
    clear O5
    by_cases hjk : j < kn
    · have j1 : (j : Int) < (kn : Int) := by omega
      have j0 : (0 : Int) ≤ (j : Int) := by omega
      have j5 : (1 : Int) + (j : Int) < 5 := by omega
      have wj : wrap64 (1 + (j : Int)) = 1 + (j : Int) := by unfold wrap64; omega
      have tj : (1 + (j : Int)).toNat = 1 + j := by omega
      have p0 : (0 : Int) ≤ 1 + (j : Int) := by omega
      obtain ⟨e, t0, t1⟩ := HLv.out j hjk
      have hjL : j < L.length := by rw [HLk.out]; exact hjk
      rcases HI4.out with ⟨h0, _⟩ | ⟨g, cc, hv, h1, h2, h3⟩
      · rw [h0] at hjL; simp at hjL
      injection hv with hv1 hv2 hv3
      subst hv1 hv3
      have cj := only_cell KJ.out (h3.cell j hjL) (by omega)
      rw [e] at cj
      have HNx : Hid (∀ f, flV F d a b c x (j + 1) f = if f = 1 + j then F (val d a b c x (1 + j)).toNat else flV F d a b c x j f) := flV_next F d a b c x j
      generalize val d a b c x (1 + j) = t at cj t0 t1 HNx
      have ct := only_cell KJ.out (cell_nx (OSW.out.cell t.toNat (by omega)) BW4.out) (by have := HQ.out; have := HS5.out; omega)
      have fj := OJ.out.free (1 + j)
      obtain ⟨z0, hz0⟩ : ∃ z0, wr.cell? ⟨q5, 1 + j, none⟩ = some (.int .i64 z0) := ⟨_, OJ.out.cell (1 + j) (by omega)⟩
      have O2 : Hid (Own (wr.setCell ⟨q5, 1 + j, none⟩ (.int .i64 (F t.toNat))) q5 5 (fun f => .int .i64 (flV F d a b c x (j + 1) f))) := OJ.out.set (1 + j) _ (by omega) (fun f hf => by
        rw [HNx.out]
        by_cases e : f = 1 + j
        · rw [if_pos e, if_pos e]
        · rw [if_neg e, if_neg e])
      have K2 : Hid (Only q5 w4 (wr.setCell ⟨q5, 1 + j, none⟩ (.int .i64 (F t.toNat)))) := KJ.out.setCell _ _
      generalize F t.toNat = ft at ct O2 K2
      clear OJ KJ HNx e h1 h3 hjL
      go_wp2
      go_roundw
      case rel => exact ⟨j + 1, by omega, by go_num, O2, K2⟩
      case measure => simp [intOf]; omega
    · obtain rfl : j = kn := by omega
      have j1 : ¬ (j : Int) < (j : Int) := by omega
      obtain ⟨U, rfl⟩ : ∃ U, U = wr := ⟨_, rfl⟩
      have e0 : flV F d a b c x j 0 = d := by unfold flV; rw [if_neg (by omega)]; rfl
      have e1 : flV F d a b c x j 1 = mvV F j 0 a := flV_mv F d a b c x j 0
      have e2 : flV F d a b c x j 2 = mvV F j 1 b := flV_mv F d a b c x j 1
      have e3 : flV F d a b c x j 3 = mvV F j 2 c := flV_mv F d a b c x j 2
      have e4 : flV F d a b c x j 4 = x := by unfold flV; rw [if_neg (by omega)]; rfl
      have HE5 : Hid (vals (fun f => .int .i64 (flV F d a b c x j f)) 5 = #[.int .i64 d, .int .i64 (mvV F j 0 a), .int .i64 (mvV F j 1 b), .int .i64 (mvV F j 2 c), .int .i64 x]) := by show _ = _; rw [ints5, e0, e1, e2, e3, e4]
      have OIU : Hid (Own U q3 6 (insV o d a b c x)) := (OI.out.next BW4.out).but KJ.out (by have := HS5.out; omega)
      have OZU : Hid (Own U (q3 + 1) 6 (insV 0 0 0 0 0 0)) := (OZ.out.next BW4.out).but KJ.out (by have := HS5.out; omega)
      have OSU : Hid (Own U q 400 (fun r => .int .i64 (F r))) := (OSW.out.next BW4.out).but KJ.out (by have := HQ.out; have := HS5.out; omega)
      have HUs : Hid (W.heap.size ≤ U.heap.size) := by have := BW4.out.size; have := KJ.out.size; show _ ≤ _; omega
      have KU : Hid (Only q w U) := by
        have b1 : Below w.heap.size w w4 := HBW.out.trans (BW4.out.mono HBW.out.size)
        have b2 : Below w.heap.size w4 U := KJ.out.below (by have := HS5.out; omega) b1.size
        exact Only.ofBelow (b1.trans b2)
      have HLE : Hid (w.heap.size ≤ q3) := Nat.le_of_eq hq3
      have dx : U.cell? ⟨q3, 0, none⟩ = some (.int .i64 o) := OIU.out.cell 0 (by omega)
      obtain ⟨ma, hma⟩ : ∃ ma, mvV F j 0 a = ma := ⟨_, rfl⟩
      obtain ⟨mb, hmb⟩ : ∃ mb, mvV F j 1 b = mb := ⟨_, rfl⟩
      obtain ⟨mc, hmc⟩ : ∃ mc, mvV F j 2 c = mc := ⟨_, rfl⟩
      rw [hma, hmb, hmc] at HE5
      have HMa : Hid (mvV F j 0 a = ma) := hma
      have HMb : Hid (mvV F j 1 b = mb) := hmb
      have HMc : Hid (mvV F j 2 c = mc) := hmc
      have h80 := instr80 o d ma mb mc x U x0 x1
      clear e0 e1 e2 e3 e4 HI4 HLv HLk OI OZ OSW HFW BW4 KJ HM hma hmb hmc hq3 HBW HWs HUs
      cases hnm : nmd o 0
      · have h2 : (o == 2) = false := by
          by_cases e : o = 2
          · subst e; cases hnm
          · simp [e]
        have HS : Hid (mvS F o d ma = F) := mvS_none hnm
        go_wp2_with (first | (refine wpList_load_own rfl 93 _ rfl q5 rfl 5 _ _ OJ.out Tryd.underlying93 rfl size74 ?_; simp only [HE5.out]) | (go_at_call 96; refine h80.mono ?_; rintro e w6 ⟨rfl, B6⟩) | (refine wpList_store_own rfl 35 _ _ rfl q3 rfl 6 _ (insV o d ma mb mc x) rfl (OIU.out.next B6) (insV_one o d ma mb mc x) size40 ?_; intro w7 O7 K7; have y0 : w7.cell? ⟨q3, 0, none⟩ = some (.int .i64 o) := O7.cell 0 (by omega); have h85 := writes85 o w7; rw [hnm] at h85) | (go_at_call 97; refine h85.mono ?_; rintro e w8 ⟨rfl, B8⟩; have OZ8 : Own w8 (q3 + 1) 6 (insV 0 0 0 0 0 0) := ((OZU.out.next B6).but K7 (by omega)).next B8; have OS8 : Own w8 q 400 (fun r => .int .i64 (F r)) := ((OSU.out.next B6).but K7 (by have := HQ.out; omega)).next B8; have OI8 : Own w8 q3 6 (insV o d ma mb mc x) := O7.next B8; have s0 : w8.cell? ⟨q3, 0, none⟩ = some (.int .i64 o) := OI8.cell 0 (by omega); have s1 : w8.cell? ⟨q3, 1, none⟩ = some (.int .i64 d) := OI8.cell 1 (by omega); have K8 : Only q w w8 := (only_far (KU.out.trans (Only.ofBelow B6)) K7 HLE.out).trans (Only.ofBelow B8); have HOI8 : Hid (Own w8 q3 6 (insV o d ma mb mc x)) := OI8; have HOZ8 : Hid (Own w8 (q3 + 1) 6 (insV 0 0 0 0 0 0)) := OZ8; have HOS8 : Hid (Own w8 q 400 (fun r => .int .i64 (F r))) := OS8; have HK8 : Hid (Only q w w8) := K8; clear B6 K7 O7 B8 y0 OZ8 OS8 OI8 K8 h85) | (refine wpList_load_own rfl 35 _ rfl q3 rfl 6 _ _ HOI8.out Tryd.underlying35 rfl size40 ?_; simp only [ins6]) | (refine wpList_store_own rfl 35 _ _ rfl (q3 + 1) rfl 6 _ (insV o d ma mb mc x) rfl HOZ8.out (insV_one o d ma mb mc x) size40 ?_; intro w10 O10 K10))
        (try simp only [Exit.inBlock, Exit.then])
        exact bodyPost_ret (results_own rfl _ _ (q3 + 1) 6 _ _ rfl O10 Tryd.underlying35 rfl size40) rfl ⟨by rw [ins6, HMa.out, HMb.out, HMc.out], by rw [HMa.out, HS.out]; exact HOS8.out.but K10 (by have := HQ.out; omega), only_far HK8.out K10 (by have := HLE.out; omega)⟩
      · by_cases e2 : o = 2
        · subst e2
          have HS : Hid (∀ r, mvS F 2 d ma r = if r = d.toNat then ma else fgF F d r) := fun r => mvS_mv r
          go_wp2_with (first | (refine wpList_load_own rfl 93 _ rfl q5 rfl 5 _ _ OJ.out Tryd.underlying93 rfl size74 ?_; simp only [HE5.out]) | (go_at_call 96; refine h80.mono ?_; rintro e w6 ⟨rfl, B6⟩) | (refine wpList_store_own rfl 35 _ _ rfl q3 rfl 6 _ (insV 2 d ma mb mc x) rfl (OIU.out.next B6) (insV_one 2 d ma mb mc x) size40 ?_; intro w7 O7 K7; have y0 : w7.cell? ⟨q3, 0, none⟩ = some (.int .i64 2) := O7.cell 0 (by omega); have h85 := writes85 2 w7; rw [hnm] at h85) | (go_at_call 97; refine h85.mono ?_; rintro e w8 ⟨rfl, B8⟩; have OZ8 : Own w8 (q3 + 1) 6 (insV 0 0 0 0 0 0) := ((OZU.out.next B6).but K7 (by omega)).next B8; have OS8 : Own w8 q 400 (fun r => .int .i64 (F r)) := ((OSU.out.next B6).but K7 (by have := HQ.out; omega)).next B8; have OI8 : Own w8 q3 6 (insV 2 d ma mb mc x) := O7.next B8; have s0 : w8.cell? ⟨q3, 0, none⟩ = some (.int .i64 2) := OI8.cell 0 (by omega); have s1 : w8.cell? ⟨q3, 1, none⟩ = some (.int .i64 d) := OI8.cell 1 (by omega); have K8 : Only q w w8 := (only_far (KU.out.trans (Only.ofBelow B6)) K7 HLE.out).trans (Only.ofBelow B8); have HOI8 : Hid (Own w8 q3 6 (insV 2 d ma mb mc x)) := OI8; have HOZ8 : Hid (Own w8 (q3 + 1) 6 (insV 0 0 0 0 0 0)) := OZ8; have HOS8 : Hid (Own w8 q 400 (fun r => .int .i64 (F r))) := OS8; have HK8 : Hid (Only q w w8) := K8; clear B6 K7 O7 B8 y0 OZ8 OS8 OI8 K8 h85) | (go_at_call 98; refine (forget89 q F d w8 d0 HOS8.out).mono ?_; rintro e w9 ⟨rfl, O9, K9⟩; have HOI9 : Hid (Own w9 q3 6 (insV 2 d ma mb mc x)) := HOI8.out.but K9 (by have := HQ.out; omega); have HOZ9 : Hid (Own w9 (q3 + 1) 6 (insV 0 0 0 0 0 0)) := HOZ8.out.but K9 (by have := HQ.out; omega); have HOS9 : Hid (Own w9 q 400 (fun r => .int .i64 (fgF F d r))) := O9; have HK9 : Hid (Only q w w9) := HK8.out.trans K9; have t0 : w9.cell? ⟨q3, 0, none⟩ = some (.int .i64 2) := HOI9.out.cell 0 (by omega); have t1 : w9.cell? ⟨q3, 1, none⟩ = some (.int .i64 d) := HOI9.out.cell 1 (by omega); have t2 : w9.cell? ⟨q3, 2, none⟩ = some (.int .i64 ma) := HOI9.out.cell 2 (by omega); clear O9 K9 s0 s1))
          have ct := HOS9.out.cell d.toNat (by omega)
          have ft := HOS9.out.free d.toNat
          obtain ⟨w10, hw10⟩ : ∃ w10, (w9.setCell ⟨q, d.toNat, none⟩ (.int .i64 ma)).drew = w10 := ⟨_, rfl⟩
          have OW : Hid (Own w10 q 400 (fun r => .int .i64 (mvS F 2 d ma r))) := by
            show Own _ _ _ _
            rw [← hw10]
            exact (HOS9.out.set (g := fun r => .int .i64 (mvS F 2 d ma r)) d.toNat (.int .i64 ma) (by omega) (fun r hr => by
              rw [HS.out]
              by_cases e : r = d.toNat
              · rw [if_pos e, if_pos e]
              · rw [if_neg e, if_neg e])).drew
          have KW : Only q w9 w10 := by rw [← hw10]; exact ((Only.refl q w9).setCell _ _).drew
          have HOI10 : Hid (Own w10 q3 6 (insV 2 d ma mb mc x)) := HOI9.out.but KW (by have := HQ.out; omega)
          have HOZ10 : Hid (Own w10 (q3 + 1) 6 (insV 0 0 0 0 0 0)) := HOZ9.out.but KW (by have := HQ.out; omega)
          have HK10 : Hid (Only q w w10) := HK9.out.trans KW
          clear KW
          go_region
          all_goals
            (try rw [hw10])
            clear hw10
            go_wp2_with (first | (refine wpList_load_own rfl 35 _ rfl q3 rfl 6 _ _ HOI10.out Tryd.underlying35 rfl size40 ?_; simp only [ins6]) | (refine wpList_store_own rfl 35 _ _ rfl (q3 + 1) rfl 6 _ (insV 2 d ma mb mc x) rfl HOZ10.out (insV_one 2 d ma mb mc x) size40 ?_; intro w11 O11 K11))
            (try simp only [Exit.inBlock, Exit.then])
            exact bodyPost_ret (results_own rfl _ _ (q3 + 1) 6 _ _ rfl O11 Tryd.underlying35 rfl size40) rfl ⟨by rw [ins6, HMa.out, HMb.out, HMc.out], by rw [HMa.out]; exact OW.out.but K11 (by have := HQ.out; omega), only_far HK10.out K11 (by have := HLE.out; omega)⟩
        · have h2 : (o == 2) = false := by simp [e2]
          have HS : Hid (mvS F o d ma = fgF F d) := mvS_fg hnm e2 d0
          clear e2
          go_wp2_with (first | (refine wpList_load_own rfl 93 _ rfl q5 rfl 5 _ _ OJ.out Tryd.underlying93 rfl size74 ?_; simp only [HE5.out]) | (go_at_call 96; refine h80.mono ?_; rintro e w6 ⟨rfl, B6⟩) | (refine wpList_store_own rfl 35 _ _ rfl q3 rfl 6 _ (insV o d ma mb mc x) rfl (OIU.out.next B6) (insV_one o d ma mb mc x) size40 ?_; intro w7 O7 K7; have y0 : w7.cell? ⟨q3, 0, none⟩ = some (.int .i64 o) := O7.cell 0 (by omega); have h85 := writes85 o w7; rw [hnm] at h85) | (go_at_call 97; refine h85.mono ?_; rintro e w8 ⟨rfl, B8⟩; have OZ8 : Own w8 (q3 + 1) 6 (insV 0 0 0 0 0 0) := ((OZU.out.next B6).but K7 (by omega)).next B8; have OS8 : Own w8 q 400 (fun r => .int .i64 (F r)) := ((OSU.out.next B6).but K7 (by have := HQ.out; omega)).next B8; have OI8 : Own w8 q3 6 (insV o d ma mb mc x) := O7.next B8; have s0 : w8.cell? ⟨q3, 0, none⟩ = some (.int .i64 o) := OI8.cell 0 (by omega); have s1 : w8.cell? ⟨q3, 1, none⟩ = some (.int .i64 d) := OI8.cell 1 (by omega); have K8 : Only q w w8 := (only_far (KU.out.trans (Only.ofBelow B6)) K7 HLE.out).trans (Only.ofBelow B8); have HOI8 : Hid (Own w8 q3 6 (insV o d ma mb mc x)) := OI8; have HOZ8 : Hid (Own w8 (q3 + 1) 6 (insV 0 0 0 0 0 0)) := OZ8; have HOS8 : Hid (Own w8 q 400 (fun r => .int .i64 (F r))) := OS8; have HK8 : Hid (Only q w w8) := K8; clear B6 K7 O7 B8 y0 OZ8 OS8 OI8 K8 h85) | (go_at_call 98; refine (forget89 q F d w8 d0 HOS8.out).mono ?_; rintro e w9 ⟨rfl, O9, K9⟩; have HOI9 : Hid (Own w9 q3 6 (insV o d ma mb mc x)) := HOI8.out.but K9 (by have := HQ.out; omega); have HOZ9 : Hid (Own w9 (q3 + 1) 6 (insV 0 0 0 0 0 0)) := HOZ8.out.but K9 (by have := HQ.out; omega); have HOS9 : Hid (Own w9 q 400 (fun r => .int .i64 (fgF F d r))) := O9; have HK9 : Hid (Only q w w9) := HK8.out.trans K9; have t0 : w9.cell? ⟨q3, 0, none⟩ = some (.int .i64 o) := HOI9.out.cell 0 (by omega); have t1 : w9.cell? ⟨q3, 1, none⟩ = some (.int .i64 d) := HOI9.out.cell 1 (by omega); have t2 : w9.cell? ⟨q3, 2, none⟩ = some (.int .i64 ma) := HOI9.out.cell 2 (by omega); clear O9 K9 s0 s1) | (refine wpList_load_own rfl 35 _ rfl q3 rfl 6 _ _ HOI9.out Tryd.underlying35 rfl size40 ?_; simp only [ins6]) | (refine wpList_store_own rfl 35 _ _ rfl (q3 + 1) rfl 6 _ (insV o d ma mb mc x) rfl HOZ9.out (insV_one o d ma mb mc x) size40 ?_; intro w10 O10 K10))
          (try simp only [Exit.inBlock, Exit.then])
          exact bodyPost_ret (results_own rfl _ _ (q3 + 1) 6 _ _ rfl O10 Tryd.underlying35 rfl size40) rfl ⟨by rw [ins6, HMa.out, HMb.out, HMc.out], by rw [HMa.out, HS.out]; exact HOS9.out.but K10 (by have := HQ.out; omega), only_far HK9.out K10 (by have := HLE.out; omega)⟩
end Go.Proofs.YtcgapochcahknaaDoor
