/- The program's clashes: for each register those that clash with it. ClashesOf of both sides, of any code; the walk of its law. -/
import Derived.Test.YtmeokhppaekhpaaGreatDoorStl
namespace Go.Proofs.YtmeokhppaekhpaaGreatDoor
open Go.ChangeShapes Go.WideShapes Go.ChangeAt Go.RowKit
set_option linter.unusedVariables false
/-- The lists in the making, and the instruction that is looked at, in block qi; all that was there before world w2 is as it was. -/
structure Lz (c : Cd) (w2 ws : World) (gm R : Nat) (U : Nat → Value) (M : Nat → Nat → Bool) (k qi : Nat) (dk : Int) (wx : World) : Prop where
  mt : Mt gm R U M wx
  d : Below w2.heap.size w2 wx
  s : Below ws.heap.size ws wx
  hq : qi < wx.heap.size
  c0 : wx.cell? ⟨qi, 0, none⟩ = some (.int .i64 (c.O k))
  c1 : wx.cell? ⟨qi, 1, none⟩ = some (.int .i64 dk)
  c2 : wx.cell? ⟨qi, 2, none⟩ = some (.int .i64 (c.A k))
  c3 : wx.cell? ⟨qi, 3, none⟩ = some (.int .i64 (c.B k))
  c4 : wx.cell? ⟨qi, 4, none⟩ = some (.int .i64 (c.C k))
  c5 : wx.cell? ⟨qi, 5, none⟩ = some (.int .u32 (c.X k))
theorem Lz.next {c : Cd} {w2 ws wx wy : World} {gm R k qi : Nat} {dk : Int} {U : Nat → Value} {M : Nat → Nat → Bool} (h : Lz c w2 ws gm R U M k qi dk wx) (b : Below wx.heap.size wx wy) : Lz c w2 ws gm R U M k qi dk wy := ⟨h.mt.next b, h.d.trans (b.mono h.d.size), h.s.trans (b.mono h.s.size), by have := h.hq; have := b.size; omega, cell_nx h.c0 b, cell_nx h.c1 b, cell_nx h.c2 b, cell_nx h.c3 b, cell_nx h.c4 b, cell_nx h.c5 b⟩
theorem Lz.drew {c : Cd} {w2 ws wx : World} {gm R k qi : Nat} {dk : Int} {U : Nat → Value} {M : Nat → Nat → Bool} (h : Lz c w2 ws gm R U M k qi dk wx) : Lz c w2 ws gm R U M k qi dk wx.drew := h.next (below_drew (Below.refl _ _))
theorem step_val {P : Program} {ops : Array Oper} {o : Oper} {a : Act} {w : World} {K : Act → World → Prop} {Q : Exit → Act → World → Prop} {E : Prop} (v : Value) (w' : World) (hgd : o.guard = none) (hrun : (execOp a.eval o).run P w = .ok (.value v) w') (hK : K (a.put o.dst v) w') : if Region.wanted o (yielded ops a.tmps) = true then Oper.wp P o a w K Q else E := by
  have hw : Region.wanted o (yielded ops a.tmps) = true := by simp [Region.wanted, hgd]
  rw [if_pos hw]
  unfold Oper.wp
  rw [hrun, Oper.upon_value]
  exact hK
theorem step_skip {P : Program} {ops : Array Oper} {o : Oper} {a : Act} {w : World} {K : Act → World → Prop} {Q : Exit → Act → World → Prop} {E : Prop} (w' : World) (hgd : o.guard = none) (hrun : (execOp a.eval o).run P w = .ok .skip w') (hK : K (a.put o.dst undef) w') : if Region.wanted o (yielded ops a.tmps) = true then Oper.wp P o a w K Q else E := by
  have hw : Region.wanted o (yielded ops a.tmps) = true := by simp [Region.wanted, hgd]
  rw [if_pos hw]
  unfold Oper.wp
  rw [hrun, Oper.upon_skip]
  exact hK
/-- The instruction that is looked at, and what lives behind it. -/
structure Lv (c : Cd) (w2 : World) (k qi gc1 : Nat) (dk : Int) (lv : Value) (wx : World) : Prop where
  d : Below w2.heap.size w2 wx
  c0 : wx.cell? ⟨qi, 0, none⟩ = some (.int .i64 (c.O k))
  c1 : wx.cell? ⟨qi, 1, none⟩ = some (.int .i64 dk)
  c2 : wx.cell? ⟨qi, 2, none⟩ = some (.int .i64 (c.A k))
  c3 : wx.cell? ⟨qi, 3, none⟩ = some (.int .i64 (c.B k))
  c4 : wx.cell? ⟨qi, 4, none⟩ = some (.int .i64 (c.C k))
  c5 : wx.cell? ⟨qi, 5, none⟩ = some (.int .u32 (c.X k))
  cl : wx.cell? ⟨gc1, k, none⟩ = some lv
theorem Lv.next {c : Cd} {w2 wx wy : World} {k qi gc1 : Nat} {dk : Int} {lv : Value} (h : Lv c w2 k qi gc1 dk lv wx) (b : Below wx.heap.size wx wy) : Lv c w2 k qi gc1 dk lv wy := ⟨h.d.trans (b.mono h.d.size), cell_nx h.c0 b, cell_nx h.c1 b, cell_nx h.c2 b, cell_nx h.c3 b, cell_nx h.c4 b, cell_nx h.c5 b, cell_nx h.cl b⟩
theorem Lv.set {c : Cd} {w2 wx : World} {k qi gc1 gm j : Nat} {dk : Int} {lv : Value} (h : Lv c w2 k qi gc1 dk lv wx) (h1 : w2.heap.size ≤ gm) (h2 : qi ≠ gm) (h3 : gc1 ≠ gm) (v : Value) : Lv c w2 k qi gc1 dk lv (wx.setCell ⟨gm, j, none⟩ v) := by
  have q : ∀ i : Nat, (wx.setCell ⟨gm, j, none⟩ v).cell? ⟨qi, i, none⟩ = wx.cell? ⟨qi, i, none⟩ := fun i => by rw [World.cell?_setCell_other (h := addr_ne' (Ne.symm h2))]
  refine ⟨h.d.setCell (p := ⟨gm, j, none⟩) h1 _, (q 0).trans h.c0, (q 1).trans h.c1, (q 2).trans h.c2, (q 3).trans h.c3, (q 4).trans h.c4, (q 5).trans h.c5, ?_⟩
  rw [World.cell?_setCell_other (h := addr_ne' (Ne.symm h3))]
  exact h.cl
/-- The lists in the making, beside one that is told over. -/
structure Ly (w2 ws : World) (gm R : Nat) (U : Nat → Value) (M : Nat → Nat → Bool) (fz : Value) (F : List Int) (wx : World) : Prop where
  mt : Mt gm R U M wx
  d : Below w2.heap.size w2 wx
  s : Below ws.heap.size ws wx
  i : IOwn (gm + 1) wx fz F
theorem Ly.next {w2 ws wx wy : World} {gm R : Nat} {U : Nat → Value} {M : Nat → Nat → Bool} {fz : Value} {F : List Int} (h : Ly w2 ws gm R U M fz F wx) (b : Below wx.heap.size wx wy) : Ly w2 ws gm R U M fz F wy := ⟨h.mt.next b, h.d.trans (b.mono h.d.size), h.s.trans (b.mono h.s.size), h.i.next b⟩
theorem Ly.drew {w2 ws wx : World} {gm R : Nat} {U : Nat → Value} {M : Nat → Nat → Bool} {fz : Value} {F : List Int} (h : Ly w2 ws gm R U M fz F wx) : Ly w2 ws gm R U M fz F wx.drew := h.next (below_drew (Below.refl _ _))
theorem Mt.drew {gm R : Nat} {U : Nat → Value} {M : Nat → Nat → Bool} {wx : World} (h : Mt gm R U M wx) : Mt gm R U M wx.drew := h.next (below_drew (Below.refl _ _))
set_option maxRecDepth 100000 in
set_option maxHeartbeats 16000000 in
theorem clashes30 (n a cap : Nat) (c : Cd) (hn : c.n = n) (hg : goodC c.O c.D c.A c.B c.C c.X c.n = true) (hX : Wds c.X c.n) (w : World) (G : Forms w) (RI : RowI w a n c.O c.D c.A c.B c.C c.X) : Calls Tryz.prog 54 #[.slice (some ⟨a, 0, none⟩) n cap] w fun e w' => ∃ u, e = .returned u ∧ Ans w.heap.size w' u c.R (fun x => lsF (clB c c.R n x) c.R) ∧ Below w.heap.size w w' := by
  obtain ⟨K, hD, hR⟩ := lvok_of hg hX
  obtain ⟨i40, hi40, hz400, hz401, hz402⟩ := info_parts info34
  have n1 : n ≤ 600 := by rw [← hn]; exact K.n1
  have n0 : 1 ≤ n := by rw [← hn]; exact K.n0
  have r1 := K.r1
  have h24 := living24 n a cap c hn hg hX w G RI
  have H43 : Hid (∀ v, Below w.heap.size w v → Calls Tryz.prog 36 #[.slice (some ⟨a, 0, none⟩) n cap] v fun e w' => e = .returned (.int .i64 (c.R : Int)) ∧ Below v.heap.size v w') := fun v b => (regs14 n a cap c.O c.D c.A c.B c.C c.X v (G.below b) (RI.next b) (by rw [← hn]; exact hX) (by omega)).mono fun e w' ⟨h1, h2⟩ => ⟨by rw [h1]; unfold regsV; rw [← hn, hg, hR]; rfl, h2⟩
  have HK : Hid (LvOk c c.R) := K
  have HDd : Hid (∀ k, k < c.n → nmd (c.O k) 0 = true → c.D k < c.R) := hD
  have HN : Hid (c.n = n) := hn
  have HR : Hid (RowI w a n c.O c.D c.A c.B c.C c.X) := RI
  have HF : Hid (Forms w) := G
  have HFA : Hid (ahL (c.O 0) (c.D 0) (c.A 0) (c.B 0) (c.C 0) (c.X 0) (lsF (lbB c 0) c.R) = lsF (laB c 0) c.R) := ah_first K
  have HLl : Hid (∀ S : Nat → Bool, (lsF S c.R).length ≤ 400) := fun S => by have := ls_len S c.R; omega
  have HPost : Hid (∀ u w', Ans w.heap.size w' u c.R (fun x => lsF (clB c c.R n x) c.R) → Below w.heap.size w w' → ∃ x, Ending.returned u = .returned x ∧ Ans w.heap.size w' x c.R (fun x => lsF (clB c c.R n x) c.R) ∧ Below w.heap.size w w') := fun u w' a b => ⟨u, rfl, a, b⟩
  have HCl : Hid (∀ x y, x < c.R → y < c.R → M3 c n (lsF (laB c 0) c.R) c.R x y = clB c c.R n x y) := fun x y hx hy => M3_cl c c.R n x y hx hy
  clear K hn RI G hR hg hX hD
  generalize c.R = R at r1 h24 H43 HK HDd HFA HLl HPost HCl
  go_enter Tryz.func54, Tryz.ntmps54
  go_wp2_with (first | (go_at_call 81; refine h24.mono ?_; rintro e w1 ⟨u1, rfl, C1, B1⟩; (obtain ⟨gc1, g1, rfl, p1, p2, T1⟩ := C1)) | (go_at_call 36; refine (H43.out w1 B1).mono ?_; rintro e w2 ⟨rfl, B2⟩) | (at_make; refine wpList_make_full _ rfl _ _ 78 rfl w2.heap.size 24 i40 (.slice none 0 0) 1 Tryz.underlying78 hi40 hz400 hz401 .i64 .i64 _ _ R rfl rfl rfl rfl ?b2 ?b3 (Nat.le_refl _) ?_))
  case b2 => (try rw [hz402]); omega
  case b3 => (try unfold maxLen); omega
  intro w3 hown hgrow
  have A3 : Own w3 w2.heap.size R (fun _ => .slice none 0 0) := own_made (by rw [Nat.mul_one]; exact hown)
  have B3 : Below w2.heap.size w2 w3 := ⟨hgrow.os, hgrow.tape, hgrow.output, hgrow.size, fun k hk => hgrow.block k hk (by simp)⟩
  have HB2 : Hid (Below w.heap.size w w2) := B1.trans (B2.mono B1.size)
  have HT1 : Hid (Tc w2 gc1 g1 n (fun x => (lsF (lbB c x) R).length) (fun x => lsF (lbB c x) R)) := T1.next B2
  have M0 : Hid (Mt w2.heap.size R (fun _ => .slice none 0 0) (M1 c 0) w3) := Mt.begin A3
  have D0 : Hid (Below w2.heap.size w2 w3) := B3
  obtain ⟨gm, hgm⟩ : ∃ gm, w2.heap.size = gm := ⟨_, rfl⟩
  have HGm : Hid (w2.heap.size = gm) := hgm
  have HWg : Hid (w.heap.size ≤ gm) := by have := HB2.out.size; show _ ≤ _; omega
  rw [hgm] at M0 ⊢
  clear hown hgrow A3 B1 B2 B3 T1 h24 H43 hgm
  go_wp2
  go_loopw [19] (fun i wx => ∃ (k : Nat) (U : Nat → Value), k ≤ n ∧ i = .int .i64 k ∧ Hid (Mt gm R U (M1 c k) wx) ∧ Hid (Below w2.heap.size w2 wx)) (fun i _ => n - (intOf i).toNat)
  case atStart => exact ⟨0, _, Nat.zero_le _, rfl, M0, D0⟩
  case round =>
    obtain ⟨k, U, hk, rfl, MJ, DJ⟩ := hrel
    clear M0 D0
    by_cases hkn : k < n
    · have i1 : (k : Int) < (n : Int) := by omega
      have i0 : (0 : Int) ≤ (k : Int) := by omega
      have hkc : k < c.n := by rw [HN.out]; exact hkn
      have BW : Below w.heap.size w wr := HB2.out.trans (DJ.out.mono HB2.out.size)
      have RK := HR.out.next BW
      have c0 := RK.c0 k hkn
      have c1 := RK.c1 k hkn
      have c2 := RK.c2 k hkn
      have c3 := RK.c3 k hkn
      have c4 := RK.c4 k hkn
      have c5 := RK.c5 k hkn
      have LW : Lz c w2 wr gm R U (M1 c k) k wr.heap.size (c.D k) (wr.alloc (.cells #[.int .i64 (c.O k), .int .i64 (c.D k), .int .i64 (c.A k), .int .i64 (c.B k), .int .i64 (c.C k), .int .u32 (c.X k)] 51)) := ⟨MJ.out.next ((Below.refl _ _).alloc (Nat.le_refl _) _), DJ.out.trans (((Below.refl _ _).alloc (Nat.le_refl _) _).mono DJ.out.size), (Below.refl _ _).alloc (Nat.le_refl _) _, by simp, by simp, by simp, by simp, by simp, by simp, by simp⟩
      obtain ⟨W, hW⟩ : ∃ W, wr.alloc (.cells #[.int .i64 (c.O k), .int .i64 (c.D k), .int .i64 (c.A k), .int .i64 (c.B k), .int .i64 (c.C k), .int .u32 (c.X k)] 51) = W := ⟨_, rfl⟩
      rw [hW] at LW
      have e0 := LW.c0
      have h45 := writes85 (c.O k) W
      have HMS : Hid (Below wr.heap.size wr W) := by show Below _ _ _; rw [← hW]; exact (Below.refl _ _).alloc (Nat.le_refl _) _
      have HWs : Hid (wr.heap.size ≤ W.heap.size) := HMS.out.size
      clear RK BW
      cases hw : nmd (c.O k) 0
      · rw [hw] at h45
        have MS : Hid (∀ wx, Mt gm R U (M1 c k) wx → Mt gm R U (M1 c (k + 1)) wx) := fun wx m => m.ext (fun x y _ _ => (M1_skip c k x y (fun e => by rw [hw] at e; cases e.1)).symm)
        clear hw
        go_wp2_with (go_at_call 57; refine h45.mono ?_; rintro e w4 ⟨rfl, B4⟩)
        have MN : Hid (Mt gm R U (M1 c (k + 1)) w4) := MS.out _ ((LW.next B4).mt)
        have DN : Hid (Below w2.heap.size w2 w4) := (LW.next B4).d
        clear LW MJ DJ B4 MS h45 hW e0
        go_roundw
        case rel => exact ⟨k + 1, _, by omega, by go_num, MN, DN⟩
        case measure => simp [intOf]; omega
      · rw [hw] at h45
        have HWr : Hid (nmd (c.O k) 0 = true) := hw
        have dlo := HK.out.wr k hkc hw
        have dhi := HDd.out k hkc hw
        obtain ⟨dn, hdn⟩ : ∃ dn : Nat, c.D k = (dn : Int) := ⟨(c.D k).toNat, by omega⟩
        have HDn : Hid (c.D k = (dn : Int)) := hdn
        have hdR : dn < R := by omega
        have g1' : (dn : Int) < (R : Int) := by omega
        have g2' : (0 : Int) ≤ (dn : Int) := by omega
        clear hw dlo dhi hdn
        go_wp2_with (go_at_call 57; refine h45.mono ?_; rintro e w4 ⟨rfl, B4⟩)
        have LW4 : Lz c w2 w4 gm R U (M1 c k) k wr.heap.size (dn : Int) w4 := by rw [← HDn.out]; have q := LW.next B4; exact ⟨q.mt, q.d, Below.refl _ _, q.hq, q.c0, q.c1, q.c2, q.c3, q.c4, q.c5⟩
        have HS4 : Hid (wr.heap.size ≤ w4.heap.size) := by have := HWs.out; have := B4.size; show _ ≤ _; omega
        clear LW B4 h45 hW HMS HWs e0 c0 c1 c2 c3 c4 c5
        have LW := LW4
        have MJ4 : Hid (Mt gm R U (M1 c k) w4) := LW4.mt
        clear LW4
        obtain ⟨oo, cl, _⟩ := (HT1.out.next DJ.out).col k hkn
        have cl4 := (HT1.out.next LW.d).col k hkn
        obtain ⟨oo, cl4, ho4⟩ := cl4
        have ARl : Hid (∀ v, Below w2.heap.size w2 v → ARow v (.slice (some ⟨g1, oo, none⟩) (lsF (lbB c k) R).length (lsF (lbB c k) R).length) (lsF (lbB c k) R)) := fun v b => ⟨_, _, rfl, fun i hi => ⟨g1, oo, rfl, by rw [ho4 (by show 0 < (lsF (lbB c k) R).length; omega)]; exact (HT1.out.next b).cel k hkn i hi⟩⟩
        obtain ⟨au, cu, hU⟩ := (MJ4.out.r dn hdR).row.is
        have h47 : ∀ v, Lz c w2 w4 gm R U (M1 c k) k wr.heap.size (dn : Int) v → Calls Tryz.prog 83 #[.agg #[.int .i64 (c.O k), .int .i64 (dn : Int), .int .i64 (c.A k), .int .i64 (c.B k), .int .i64 (c.C k), .int .u32 (c.X k)], .slice (some ⟨g1, oo, none⟩) (lsF (lbB c k) R).length (lsF (lbB c k) R).length] v fun e w' => ∃ z, e = .returned z ∧ IOwn v.heap.size w' z (lvO (goL (c.O k) (c.D k) (c.A k)) (lsF (lbB c k) R)) ∧ Below v.heap.size v w' ∧ Lz c w2 w4 gm R U (M1 c k) k wr.heap.size (dn : Int) w' := fun v hv => by
          rw [← HDn.out] at hv ⊢
          exact (clashing47 (c.O k) (c.D k) (c.A k) (c.B k) (c.C k) (c.X k) _ _ v (by have := HLl.out (lbB c k); omega) (ARl.out v hv.d)).mono fun e w' ⟨z, q1, q2, q3⟩ => ⟨z, q1, q2, q3, hv.next q3⟩
        have h46 : ∀ v z, Lz c w2 w4 gm R U (M1 c k) k wr.heap.size (dn : Int) v → ARow v z (lvO (goL (c.O k) (c.D k) (c.A k)) (lsF (lbB c k) R)) → Calls Tryz.prog 82 #[.slice au (lsF (M1 c k dn) R).length cu, z] v fun e w' => ∃ z', e = .returned z' ∧ IOwn v.heap.size w' z' (lsF (M1 c (k + 1) dn) R) ∧ Below v.heap.size v w' ∧ Lz c w2 w4 gm R U (M1 c k) k wr.heap.size (dn : Int) w' := fun v z hv hz => (union46 _ z (lsF (M1 c k dn) R) _ v (by have := HLl.out (M1 c k dn); have := lvO_len (goL (c.O k) (c.D k) (c.A k)) (lsF (lbB c k) R); have := HLl.out (lbB c k); omega) (by rw [← hU]; exact (hv.mt.r dn hdR).arow) hz).mono fun e w' ⟨z', q1, q2, q3⟩ => ⟨z', q1, by rw [← M1_row c R k dn HWr.out HDn.out]; exact q2, q3, hv.next q3⟩
        have e0 := LW.c0
        have e1 := LW.c1
        have e2 := LW.c2
        have e3 := LW.c3
        have e4 := LW.c4
        have e5 := LW.c5
        have m4 := LW.mt.c dn hdR
        rw [hU] at m4
        have f4 := LW.mt.f dn
        have cl4' : w4.cell? ⟨gc1, k, none⟩ = some (.slice (some ⟨g1, oo, none⟩) (lsF (lbB c k) R).length (lsF (lbB c k) R).length) := cl4
        have MST : Hid (∀ (wx : World) (z : Value), Below w4.heap.size w4 wx → IOwn w4.heap.size wx z (lsF (M1 c (k + 1) dn) R) → Mt gm R (upV U dn z) (M1 c (k + 1)) (wx.setCell ⟨gm, dn, none⟩ z)) := fun wx z b i => MJ4.out.step b hdR i (fun x y _ _ hne => M1_skip c k x y (fun e => hne (by have h1 := e.2; rw [HDn.out] at h1; omega)))
        have HGs : Hid (w2.heap.size ≤ gm) := by show _ ≤ _; rw [HGm.out]; exact Nat.le_refl _
        obtain ⟨qi, hqi⟩ : ∃ qi, wr.heap.size = qi := ⟨_, rfl⟩
        rw [hqi] at LW h47 h46 e0 e1 e2 e3 e4 e5 ⊢
        generalize (lsF (lbB c k) R).length = ll at h47 cl4'
        generalize (lsF (M1 c k dn) R).length = lm at h46 m4 hU
        have HU : Hid (U dn = .slice au lm cu) := hU
        have HNq : Hid (qi ≠ gm) := by have := MJ.out.hg; show _ ≠ _; omega
        have HNg : Hid (gc1 ≠ gm) := by have := HT1.out.hc; have := HGm.out; show _ ≠ _; omega
        clear hqi cl cl4 ho4 hU DJ HS4 ARl MJ
        clear HT1 HFA HPost HCl HR HF HK HLl HDd HB2 HWg MJ4
        have HS0 : Lv c w2 k qi gc1 (dn : Int) (.slice (some ⟨g1, oo, none⟩) ll ll) w4.drew := ⟨LW.drew.d, LW.c0, LW.c1, LW.c2, LW.c3, LW.c4, LW.c5, cl4'⟩
        have m5 : w4.drew.cell? ⟨gm, dn, none⟩ = some (.slice au lm cu) := m4
        have LW5 := LW.drew
        have HQ1 : Hid (qi ≠ gm ∧ gc1 ≠ gm) := ⟨HNq.out, HNg.out⟩
        have k0n : (0 : Int) ≤ (k : Int) := i0
        clear e0 e1 e2 e3 e4 e5 m4 f4 cl4' LW
        generalize hWW : w4.drew = W5 at HS0 m5 LW5
        refine wp_region_held_drew (S := Lv c w2 k qi gc1 (dn : Int) (.slice (some ⟨g1, oo, none⟩) ll ll)) (by kernel_rfl) (by rw [hWW]; exact HS0) (fun hH => ?_)
        rw [hWW] at hH ⊢
        clear HS0 hWW
        refine wpAnyH_take (i := 0) (oi := { dst := some 27, op := Op.move (Operand.tmp 4), type := 78, pos := "l13_registers.go:214", after := #[], guard := none }) (v := .slice (some ⟨gm, 0, none⟩) R R) rfl (by kernel_rfl) (by kernel_rfl) (by kernel_rfl) (fun _ _ _ h => h) (Or.inl ⟨by rfl, fun w0 hSw => by (obtain ⟨_, s0, s1, s2, s3, s4, s5, sl⟩ := hSw; go_simp)⟩) hH ?_
        simp only [Act.put, List.setIfInBounds_toArray, List.set_cons_zero, List.set_cons_succ]
        refine wpAnyH_take (i := 1) (oi := { dst := some 28, op := Op.fieldAddr 51 (Operand.tmp 6) 1, type := 0, pos := "l13_registers.go:214", after := #[], guard := none }) (v := .pointer (some ⟨qi, 1, none⟩)) rfl (by kernel_rfl) (by kernel_rfl) (by kernel_rfl) (fun _ _ _ h => h) (Or.inl ⟨by rfl, fun w0 hSw => by (obtain ⟨_, s0, s1, s2, s3, s4, s5, sl⟩ := hSw; go_simp)⟩) hH ?_
        simp only [Act.put, List.setIfInBounds_toArray, List.set_cons_zero, List.set_cons_succ]
        refine wpAnyH_take (i := 2) (oi := { dst := some 29, op := Op.load 3 (Operand.tmp 28), type := 3, pos := "l13_registers.go:214", after := #[{ on := 1, ground := Ground.data }], guard := none }) (v := .int .i64 (dn : Int)) rfl (by kernel_rfl) (by kernel_rfl) (by kernel_rfl) (fun _ _ _ h => h) (Or.inl ⟨by rfl, fun w0 hSw => by (obtain ⟨_, s0, s1, s2, s3, s4, s5, sl⟩ := hSw; go_simp)⟩) hH ?_
        simp only [Act.put, List.setIfInBounds_toArray, List.set_cons_zero, List.set_cons_succ]
        refine wpAnyH_take (i := 3) (oi := { dst := some 30, op := Op.move (Operand.tmp 4), type := 78, pos := "l13_registers.go:214", after := #[], guard := none }) (v := .slice (some ⟨gm, 0, none⟩) R R) rfl (by kernel_rfl) (by kernel_rfl) (by kernel_rfl) (fun _ _ _ h => h) (Or.inl ⟨by rfl, fun w0 hSw => by (obtain ⟨_, s0, s1, s2, s3, s4, s5, sl⟩ := hSw; go_simp)⟩) hH ?_
        simp only [Act.put, List.setIfInBounds_toArray, List.set_cons_zero, List.set_cons_succ]
        refine wpAnyH_take (i := 4) (oi := { dst := some 31, op := Op.fieldAddr 51 (Operand.tmp 6) 1, type := 0, pos := "l13_registers.go:214", after := #[], guard := none }) (v := .pointer (some ⟨qi, 1, none⟩)) rfl (by kernel_rfl) (by kernel_rfl) (by kernel_rfl) (fun _ _ _ h => h) (Or.inl ⟨by rfl, fun w0 hSw => by (obtain ⟨_, s0, s1, s2, s3, s4, s5, sl⟩ := hSw; go_simp)⟩) hH ?_
        simp only [Act.put, List.setIfInBounds_toArray, List.set_cons_zero, List.set_cons_succ]
        refine wpAnyH_take (i := 5) (oi := { dst := some 32, op := Op.load 3 (Operand.tmp 31), type := 3, pos := "l13_registers.go:214", after := #[{ on := 4, ground := Ground.data }], guard := none }) (v := .int .i64 (dn : Int)) rfl (by kernel_rfl) (by kernel_rfl) (by kernel_rfl) (fun _ _ _ h => h) (Or.inl ⟨by rfl, fun w0 hSw => by (obtain ⟨_, s0, s1, s2, s3, s4, s5, sl⟩ := hSw; go_simp)⟩) hH ?_
        simp only [Act.put, List.setIfInBounds_toArray, List.set_cons_zero, List.set_cons_succ]
        refine wpAnyH_take (i := 6) (oi := { dst := some 33, op := Op.indexAddr 78 (Operand.tmp 30) (Operand.tmp 32), type := 0, pos := "l13_registers.go:214", after := #[{ on := 3, ground := Ground.data }, { on := 5, ground := Ground.data }], guard := none }) (v := .pointer (some ⟨gm, dn, none⟩)) rfl (by kernel_rfl) (by kernel_rfl) (by kernel_rfl) (fun _ _ _ h => h) (Or.inl ⟨by rfl, fun w0 hSw => by (obtain ⟨_, s0, s1, s2, s3, s4, s5, sl⟩ := hSw; go_simp)⟩) hH ?_
        simp only [Act.put, List.setIfInBounds_toArray, List.set_cons_zero, List.set_cons_succ]
        refine wpAnyH_take (i := 8) (oi := { dst := some 35, op := Op.load 51 (Operand.tmp 6), type := 51, pos := "l13_registers.go:214", after := #[], guard := none }) (v := .agg #[.int .i64 (c.O k), .int .i64 (dn : Int), .int .i64 (c.A k), .int .i64 (c.B k), .int .i64 (c.C k), .int .u32 (c.X k)]) rfl (by kernel_rfl) (by kernel_rfl) (by kernel_rfl) (fun _ _ _ h => h) (Or.inl ⟨by rfl, fun w0 hSw => by (obtain ⟨_, s0, s1, s2, s3, s4, s5, sl⟩ := hSw; go_simp)⟩) hH ?_
        simp only [Act.put, List.setIfInBounds_toArray, List.set_cons_zero, List.set_cons_succ]
        refine wpAnyH_take (i := 9) (oi := { dst := some 36, op := Op.move (Operand.tmp 3), type := 78, pos := "l13_registers.go:214", after := #[], guard := none }) (v := .slice (some ⟨gc1, 0, none⟩) n n) rfl (by kernel_rfl) (by kernel_rfl) (by kernel_rfl) (fun _ _ _ h => h) (Or.inl ⟨by rfl, fun w0 hSw => by (obtain ⟨_, s0, s1, s2, s3, s4, s5, sl⟩ := hSw; go_simp)⟩) hH ?_
        simp only [Act.put, List.setIfInBounds_toArray, List.set_cons_zero, List.set_cons_succ]
        refine wpAnyH_take (i := 10) (oi := { dst := some 37, op := Op.move (Operand.tmp 5), type := 3, pos := "l13_registers.go:214", after := #[], guard := none }) (v := .int .i64 (k : Int)) rfl (by kernel_rfl) (by kernel_rfl) (by kernel_rfl) (fun _ _ _ h => h) (Or.inl ⟨by rfl, fun w0 hSw => by (obtain ⟨_, s0, s1, s2, s3, s4, s5, sl⟩ := hSw; go_simp)⟩) hH ?_
        simp only [Act.put, List.setIfInBounds_toArray, List.set_cons_zero, List.set_cons_succ]
        refine wpAnyH_take (i := 11) (oi := { dst := some 38, op := Op.indexAddr 78 (Operand.tmp 36) (Operand.tmp 37), type := 0, pos := "l13_registers.go:214", after := #[{ on := 9, ground := Ground.data }, { on := 10, ground := Ground.data }], guard := none }) (v := .pointer (some ⟨gc1, k, none⟩)) rfl (by kernel_rfl) (by kernel_rfl) (by kernel_rfl) (fun _ _ _ h => h) (Or.inl ⟨by rfl, fun w0 hSw => by (obtain ⟨_, s0, s1, s2, s3, s4, s5, sl⟩ := hSw; go_simp)⟩) hH ?_
        simp only [Act.put, List.setIfInBounds_toArray, List.set_cons_zero, List.set_cons_succ]
        refine wpAnyH_take (i := 12) (oi := { dst := some 39, op := Op.load 24 (Operand.tmp 38), type := 24, pos := "l13_registers.go:214", after := #[{ on := 11, ground := Ground.data }], guard := none }) (v := .slice (some ⟨g1, oo, none⟩) ll ll) rfl (by kernel_rfl) (by kernel_rfl) (by kernel_rfl) (fun _ _ _ h => h) (Or.inl ⟨by rfl, fun w0 hSw => by (obtain ⟨_, s0, s1, s2, s3, s4, s5, sl⟩ := hSw; go_simp)⟩) hH ?_
        simp only [Act.put, List.setIfInBounds_toArray, List.set_cons_zero, List.set_cons_succ]
        refine wpAnyH_ready (rs := [7, 13]) (by kernel_rfl) (by simp) ?_
        refine (AllReadyH.cons (o := { dst := some 34, op := Op.load 24 (Operand.tmp 33), type := 24, pos := "l13_registers.go:214", after := #[{ on := 6, ground := Ground.data }], guard := none }) rfl (fun K hK => ?_) (AllReadyH.cons (o := { dst := some 40, op := Op.call { callee := Callee.value (Operand.func 83), args := #[Operand.tmp 35, Operand.tmp 39], argTypes := #[51, 24] }, type := 24, pos := "l13_registers.go:214", after := #[{ on := 8, ground := Ground.data }, { on := 12, ground := Ground.data }], guard := none }) rfl (fun K hK => ?_) AllReadyH.nil))
        · refine step_val (.slice au lm cu) W5 (by rfl) (by go_simp) ?_
          simp only [Act.put, List.setIfInBounds_toArray, List.set_cons_zero, List.set_cons_succ]
          refine hK.out _ _ hH (fun hH' => ?_)
          clear hK K hH'
          refine wpAnyH_ready (rs := [13]) (by kernel_rfl) (by simp) ?_
          refine (AllReadyH.cons (o := { dst := some 40, op := Op.call { callee := Callee.value (Operand.func 83), args := #[Operand.tmp 35, Operand.tmp 39], argTypes := #[51, 24] }, type := 24, pos := "l13_registers.go:214", after := #[{ on := 8, ground := Ground.data }, { on := 12, ground := Ground.data }], guard := none }) rfl (fun K hK => ?_) AllReadyH.nil)
          refine step_callC 83 #[.agg #[.int .i64 (c.O k), .int .i64 (dn : Int), .int .i64 (c.A k), .int .i64 (c.B k), .int .i64 (c.C k), .int .u32 (c.X k)], .slice (some ⟨g1, oo, none⟩) ll ll] (fun z v w' => IOwn v.heap.size w' z (lvO (goL (c.O k) (c.D k) (c.A k)) (lsF (lbB c k) R)) ∧ Below v.heap.size v w' ∧ Lz c w2 w4 gm R U (M1 c k) k qi (dn : Int) w') (by rfl) (by go_simp) (h47 _ LW5) ?_
          rintro z47 w47 ⟨I47, B47, L47⟩
          obtain ⟨ad47, cp47, rfl⟩ := I47.row.is
          simp only [Act.put, List.setIfInBounds_toArray, List.set_cons_zero, List.set_cons_succ]
          refine hK.out _ _ (hH.next B47) (fun hH' => ?_)
          clear hK K
          have hH := hH'
          have m7 : w47.cell? ⟨gm, dn, none⟩ = some (.slice au lm cu) := by rw [← HU.out]; exact L47.mt.c dn hdR
          refine wpAnyH_ready (rs := [14]) (by kernel_rfl) (by simp) ?_
          refine (AllReadyH.cons (o := { dst := some 41, op := Op.call { callee := Callee.value (Operand.func 82), args := #[Operand.tmp 34, Operand.tmp 40], argTypes := #[24, 24] }, type := 24, pos := "l13_registers.go:214", after := #[{ on := 7, ground := Ground.data }, { on := 13, ground := Ground.data }, { on := 13, ground := Ground.chain }], guard := none }) rfl (fun K hK => ?_) AllReadyH.nil)
          refine step_callC 82 #[.slice au lm cu, .slice ad47 (lvO (goL (c.O k) (c.D k) (c.A k)) (lsF (lbB c k) R)).length cp47] (fun z v w' => IOwn v.heap.size w' z (lsF (M1 c (k + 1) dn) R) ∧ Below v.heap.size v w' ∧ Lz c w2 w4 gm R U (M1 c k) k qi (dn : Int) w') (by rfl) (by go_simp) (h46 _ _ L47 I47.arow) ?_
          rintro z46 w46 ⟨I46, B46, L46⟩
          obtain ⟨ad46, cp46, rfl⟩ := I46.row.is
          simp only [Act.put, List.setIfInBounds_toArray, List.set_cons_zero, List.set_cons_succ]
          refine hK.out _ _ (hH.next B46) (fun hH' => ?_)
          clear hK K
          replace hH := hH'
          clear hH'
          have m6 : w46.cell? ⟨gm, dn, none⟩ = some (.slice au lm cu) := by rw [← HU.out]; exact L46.mt.c dn hdR
          have f6 := L46.mt.f dn
          refine wpAnyH_take (i := 15) (oi := { dst := some 42, op := Op.indexAddr 78 (Operand.tmp 27) (Operand.tmp 29), type := 0, pos := "l13_registers.go:214", after := #[{ on := 0, ground := Ground.data }, { on := 2, ground := Ground.data }, { on := 0, ground := Ground.phase }, { on := 1, ground := Ground.phase }, { on := 2, ground := Ground.phase }, { on := 3, ground := Ground.phase }, { on := 4, ground := Ground.phase }, { on := 5, ground := Ground.phase }, { on := 6, ground := Ground.phase }, { on := 7, ground := Ground.phase }, { on := 8, ground := Ground.phase }, { on := 9, ground := Ground.phase }, { on := 10, ground := Ground.phase }, { on := 11, ground := Ground.phase }, { on := 12, ground := Ground.phase }, { on := 13, ground := Ground.phase }, { on := 14, ground := Ground.phase }], guard := none }) (v := .pointer (some ⟨gm, dn, none⟩)) rfl (by kernel_rfl) (by kernel_rfl) (by kernel_rfl) (fun _ _ _ h => h) (Or.inl ⟨by rfl, fun w0 hSw => by (obtain ⟨_, s0, s1, s2, s3, s4, s5, sl⟩ := hSw; go_simp)⟩) hH ?_
          simp only [Act.put, List.setIfInBounds_toArray, List.set_cons_zero, List.set_cons_succ]
          have MN : Hid (Mt gm R (upV U dn (.slice ad46 (lsF (M1 c (k + 1) dn) R).length cp46)) (M1 c (k + 1)) (w46.setCell ⟨gm, dn, none⟩ (.slice ad46 (lsF (M1 c (k + 1) dn) R).length cp46))) := MST.out _ _ L46.s (I46.low L47.s.size)
          have DN : Hid (Below w2.heap.size w2 (w46.setCell ⟨gm, dn, none⟩ (.slice ad46 (lsF (M1 c (k + 1) dn) R).length cp46))) := L46.d.setCell (p := ⟨gm, dn, none⟩) HGs.out _
          have SN := hH.set (j := dn) HGs.out HQ1.out.1 HQ1.out.2 (.slice ad46 (lsF (M1 c (k + 1) dn) R).length cp46)
          refine wpAnyH_ready (rs := [16]) (by kernel_rfl) (by simp) ?_
          refine (AllReadyH.cons (o := { dst := none, op := Op.store 24 (Operand.tmp 42) (Operand.tmp 41), type := 0, pos := "l13_registers.go:214", after := #[{ on := 15, ground := Ground.data }, { on := 14, ground := Ground.data }, { on := 14, ground := Ground.chain }, { on := 0, ground := Ground.phase }, { on := 1, ground := Ground.phase }, { on := 2, ground := Ground.phase }, { on := 3, ground := Ground.phase }, { on := 4, ground := Ground.phase }, { on := 5, ground := Ground.phase }, { on := 6, ground := Ground.phase }, { on := 7, ground := Ground.phase }, { on := 8, ground := Ground.phase }, { on := 9, ground := Ground.phase }, { on := 10, ground := Ground.phase }, { on := 11, ground := Ground.phase }, { on := 12, ground := Ground.phase }, { on := 13, ground := Ground.phase }, { on := 14, ground := Ground.phase }], guard := none }) rfl (fun K hK => ?_) AllReadyH.nil)
          refine step_skip (w46.setCell ⟨gm, dn, none⟩ (.slice ad46 (lsF (M1 c (k + 1) dn) R).length cp46)) (by rfl) (by go_simp) ?_
          refine hK.out _ _ SN (fun hH' => ?_)
          clear hK K hH'
          refine wpAnyH_done (by kernel_rfl) ?_ _
          clear hH SN L46 L47 I46 I47 B46 m6 f6
          go_wp2
          go_roundw
          case rel => exact ⟨k + 1, _, by omega, by go_num, MN, DN⟩
          case measure => simp [intOf]; omega
        · refine step_callC 83 #[.agg #[.int .i64 (c.O k), .int .i64 (dn : Int), .int .i64 (c.A k), .int .i64 (c.B k), .int .i64 (c.C k), .int .u32 (c.X k)], .slice (some ⟨g1, oo, none⟩) ll ll] (fun z v w' => IOwn v.heap.size w' z (lvO (goL (c.O k) (c.D k) (c.A k)) (lsF (lbB c k) R)) ∧ Below v.heap.size v w' ∧ Lz c w2 w4 gm R U (M1 c k) k qi (dn : Int) w') (by rfl) (by go_simp) (h47 _ LW5) ?_
          rintro z47 w47 ⟨I47, B47, L47⟩
          obtain ⟨ad47, cp47, rfl⟩ := I47.row.is
          simp only [Act.put, List.setIfInBounds_toArray, List.set_cons_zero, List.set_cons_succ]
          refine hK.out _ _ (hH.next B47) (fun hH' => ?_)
          clear hK K
          have hH := hH'
          have m7 : w47.cell? ⟨gm, dn, none⟩ = some (.slice au lm cu) := by rw [← HU.out]; exact L47.mt.c dn hdR
          refine wpAnyH_ready (rs := [7]) (by kernel_rfl) (by simp) ?_
          refine (AllReadyH.cons (o := { dst := some 34, op := Op.load 24 (Operand.tmp 33), type := 24, pos := "l13_registers.go:214", after := #[{ on := 6, ground := Ground.data }], guard := none }) rfl (fun K hK => ?_) AllReadyH.nil)
          refine step_val (.slice au lm cu) w47 (by rfl) (by go_simp) ?_
          simp only [Act.put, List.setIfInBounds_toArray, List.set_cons_zero, List.set_cons_succ]
          refine hK.out _ _ hH (fun hH' => ?_)
          clear hK K hH'
          refine wpAnyH_ready (rs := [14]) (by kernel_rfl) (by simp) ?_
          refine (AllReadyH.cons (o := { dst := some 41, op := Op.call { callee := Callee.value (Operand.func 82), args := #[Operand.tmp 34, Operand.tmp 40], argTypes := #[24, 24] }, type := 24, pos := "l13_registers.go:214", after := #[{ on := 7, ground := Ground.data }, { on := 13, ground := Ground.data }, { on := 13, ground := Ground.chain }], guard := none }) rfl (fun K hK => ?_) AllReadyH.nil)
          refine step_callC 82 #[.slice au lm cu, .slice ad47 (lvO (goL (c.O k) (c.D k) (c.A k)) (lsF (lbB c k) R)).length cp47] (fun z v w' => IOwn v.heap.size w' z (lsF (M1 c (k + 1) dn) R) ∧ Below v.heap.size v w' ∧ Lz c w2 w4 gm R U (M1 c k) k qi (dn : Int) w') (by rfl) (by go_simp) (h46 _ _ L47 I47.arow) ?_
          rintro z46 w46 ⟨I46, B46, L46⟩
          obtain ⟨ad46, cp46, rfl⟩ := I46.row.is
          simp only [Act.put, List.setIfInBounds_toArray, List.set_cons_zero, List.set_cons_succ]
          refine hK.out _ _ (hH.next B46) (fun hH' => ?_)
          clear hK K
          replace hH := hH'
          clear hH'
          have m6 : w46.cell? ⟨gm, dn, none⟩ = some (.slice au lm cu) := by rw [← HU.out]; exact L46.mt.c dn hdR
          have f6 := L46.mt.f dn
          refine wpAnyH_take (i := 15) (oi := { dst := some 42, op := Op.indexAddr 78 (Operand.tmp 27) (Operand.tmp 29), type := 0, pos := "l13_registers.go:214", after := #[{ on := 0, ground := Ground.data }, { on := 2, ground := Ground.data }, { on := 0, ground := Ground.phase }, { on := 1, ground := Ground.phase }, { on := 2, ground := Ground.phase }, { on := 3, ground := Ground.phase }, { on := 4, ground := Ground.phase }, { on := 5, ground := Ground.phase }, { on := 6, ground := Ground.phase }, { on := 7, ground := Ground.phase }, { on := 8, ground := Ground.phase }, { on := 9, ground := Ground.phase }, { on := 10, ground := Ground.phase }, { on := 11, ground := Ground.phase }, { on := 12, ground := Ground.phase }, { on := 13, ground := Ground.phase }, { on := 14, ground := Ground.phase }], guard := none }) (v := .pointer (some ⟨gm, dn, none⟩)) rfl (by kernel_rfl) (by kernel_rfl) (by kernel_rfl) (fun _ _ _ h => h) (Or.inl ⟨by rfl, fun w0 hSw => by (obtain ⟨_, s0, s1, s2, s3, s4, s5, sl⟩ := hSw; go_simp)⟩) hH ?_
          simp only [Act.put, List.setIfInBounds_toArray, List.set_cons_zero, List.set_cons_succ]
          have MN : Hid (Mt gm R (upV U dn (.slice ad46 (lsF (M1 c (k + 1) dn) R).length cp46)) (M1 c (k + 1)) (w46.setCell ⟨gm, dn, none⟩ (.slice ad46 (lsF (M1 c (k + 1) dn) R).length cp46))) := MST.out _ _ L46.s (I46.low L47.s.size)
          have DN : Hid (Below w2.heap.size w2 (w46.setCell ⟨gm, dn, none⟩ (.slice ad46 (lsF (M1 c (k + 1) dn) R).length cp46))) := L46.d.setCell (p := ⟨gm, dn, none⟩) HGs.out _
          have SN := hH.set (j := dn) HGs.out HQ1.out.1 HQ1.out.2 (.slice ad46 (lsF (M1 c (k + 1) dn) R).length cp46)
          refine wpAnyH_ready (rs := [16]) (by kernel_rfl) (by simp) ?_
          refine (AllReadyH.cons (o := { dst := none, op := Op.store 24 (Operand.tmp 42) (Operand.tmp 41), type := 0, pos := "l13_registers.go:214", after := #[{ on := 15, ground := Ground.data }, { on := 14, ground := Ground.data }, { on := 14, ground := Ground.chain }, { on := 0, ground := Ground.phase }, { on := 1, ground := Ground.phase }, { on := 2, ground := Ground.phase }, { on := 3, ground := Ground.phase }, { on := 4, ground := Ground.phase }, { on := 5, ground := Ground.phase }, { on := 6, ground := Ground.phase }, { on := 7, ground := Ground.phase }, { on := 8, ground := Ground.phase }, { on := 9, ground := Ground.phase }, { on := 10, ground := Ground.phase }, { on := 11, ground := Ground.phase }, { on := 12, ground := Ground.phase }, { on := 13, ground := Ground.phase }, { on := 14, ground := Ground.phase }], guard := none }) rfl (fun K hK => ?_) AllReadyH.nil)
          refine step_skip (w46.setCell ⟨gm, dn, none⟩ (.slice ad46 (lsF (M1 c (k + 1) dn) R).length cp46)) (by rfl) (by go_simp) ?_
          refine hK.out _ _ SN (fun hH' => ?_)
          clear hK K hH'
          refine wpAnyH_done (by kernel_rfl) ?_ _
          clear hH SN L46 L47 I46 I47 B46 m6 f6
          go_wp2
          go_roundw
          case rel => exact ⟨k + 1, _, by omega, by go_num, MN, DN⟩
          case measure => simp [intOf]; omega
    · obtain rfl : n = k := by omega
      have i1 : ¬ (n : Int) < (n : Int) := by omega
      have n0' : 0 < n := by omega
      have i00 : (0 : Int) < (n : Int) := by omega
      have BW : Below w.heap.size w wr := HB2.out.trans (DJ.out.mono HB2.out.size)
      have RK := HR.out.next BW
      have c0 : wr.cell? ⟨a, 0, none⟩ = some (.int .i64 (c.O 0)) := by simpa using RK.c0 0 n0'
      have c1 : wr.cell? ⟨a, 1, none⟩ = some (.int .i64 (c.D 0)) := by simpa using RK.c1 0 n0'
      have c2 : wr.cell? ⟨a, 2, none⟩ = some (.int .i64 (c.A 0)) := by simpa using RK.c2 0 n0'
      have c3 : wr.cell? ⟨a, 3, none⟩ = some (.int .i64 (c.B 0)) := by simpa using RK.c3 0 n0'
      have c4 : wr.cell? ⟨a, 4, none⟩ = some (.int .i64 (c.C 0)) := by simpa using RK.c4 0 n0'
      have c5 : wr.cell? ⟨a, 5, none⟩ = some (.int .u32 (c.X 0)) := by simpa using RK.c5 0 n0'
      obtain ⟨oo, cl4, ho4⟩ := (HT1.out.next DJ.out).col 0 n0'
      have cl : wr.cell? ⟨gc1, 0, none⟩ = some (.slice (some ⟨g1, oo, none⟩) (lsF (lbB c 0) R).length (lsF (lbB c 0) R).length) := cl4
      have hnc : 0 < c.n := by rw [HN.out]; exact n0'
      have ARl : ARow wr (.slice (some ⟨g1, oo, none⟩) (lsF (lbB c 0) R).length (lsF (lbB c 0) R).length) (lsF (lbB c 0) R) := ⟨_, _, rfl, fun i hi => ⟨g1, oo, rfl, by rw [ho4 (by show 0 < (lsF (lbB c 0) R).length; omega)]; exact (HT1.out.next DJ.out).cel 0 n0' i hi⟩⟩
      have h48 : ∀ v, Below wr.heap.size wr v → Calls Tryz.prog 84 #[.agg #[.int .i64 (c.O 0), .int .i64 (c.D 0), .int .i64 (c.A 0), .int .i64 (c.B 0), .int .i64 (c.C 0), .int .u32 (c.X 0)], .slice (some ⟨g1, oo, none⟩) (lsF (lbB c 0) R).length (lsF (lbB c 0) R).length] v fun e w' => ∃ z, e = .returned z ∧ IOwn v.heap.size w' z (lsF (laB c 0) R) ∧ Below v.heap.size v w' := fun v b => by
        rw [← HFA.out]
        exact ahead48 (c.O 0) (c.D 0) (c.A 0) (c.B 0) (c.C 0) (c.X 0) _ _ v (HF.out.below (BW.trans (b.mono BW.size))) (HK.out.hx 0 hnc).1 (HK.out.hx 0 hnc).2 (HK.out.ops 0 hnc) (HK.out.h4 0 hnc) (by have := HLl.out (lbB c 0); omega) (ARl.next b)
      have BD : Below wr.heap.size wr wr.drew := below_drew (Below.refl _ _)
      have HFl : Hid ((lsF (laB c 0) R).length ≤ 400) := HLl.out (laB c 0)
      have HMg : Hid (gm < wr.heap.size) := MJ.out.hg
      generalize (lsF (lbB c 0) R).length = ll at h48 cl
      obtain ⟨F, hF⟩ : ∃ F, lsF (laB c 0) R = F := ⟨_, rfl⟩
      have HFF : Hid (F = lsF (laB c 0) R) := hF.symm
      rw [hF] at h48 HFl HCl
      clear RK BW cl4 ho4 ARl hF HT1 HFA
      go_upto_region 9 with fail
      go_cut [7] (fun s wx => ∃ ad cp, s = .slice ad F.length cp ∧ Hid (IOwn (gm + 1) wx (.slice ad F.length cp) F) ∧ Hid (Mt gm R U (M1 c n) wx) ∧ Hid (Below w2.heap.size w2 wx))
      case first =>
        go_region_with (go_at_call 84; refine (h48 _ ?_).mono ?_; (focus (first | with_reducible exact BD | with_reducible exact Below.refl _ _)); rintro e w48 ⟨z48, rfl, I48, B48⟩; (obtain ⟨ad48, cp48, rfl⟩ := I48.row.is); (have B48' : Below wr.heap.size wr w48 := BD.trans (B48.mono (Nat.le_refl _))))
        all_goals
          go_wp2_with fail
          go_meet
          case rel => exact ⟨_, _, rfl, I48.low (by have := HMg.out; exact this), MJ.out.next B48', DJ.out.trans (B48'.mono DJ.out.size)⟩
      case rest =>
        obtain ⟨adf, cpf, rfl, IF, MF, DF⟩ := hcut
        clear MJ DJ h48 c0 c1 c2 c3 c4 c5 cl BD
        have M20 : Hid (Mt gm R U (M2 c n (F.take 0)) wc) := MF.out.ext (fun x y _ _ => by rw [List.take_zero]; exact (M2_nil c n x y).symm)
        have hml := HFl.out
        clear MF
        go_wp2
        go_loopw [53] (fun i wx => ∃ (j : Nat) (U : Nat → Value), j ≤ F.length ∧ i = .int .i64 j ∧ Hid (Mt gm R U (M2 c n (F.take j)) wx) ∧ Hid (Below w2.heap.size w2 wx) ∧ Hid (IOwn (gm + 1) wx (.slice adf F.length cpf) F)) (fun i _ => F.length - (intOf i).toNat)
        case atStart => exact ⟨0, _, Nat.zero_le _, rfl, M20, DF, IF⟩
        case round =>
          obtain ⟨j, U, hj, rfl, MJ, DJ, IJ⟩ := hrel
          clear M20 DF IF
          by_cases hjm : j < F.length
          · have j1 : (j : Int) < (F.length : Int) := by omega
            have j0 : (0 : Int) ≤ (j : Int) := by omega
            obtain ⟨gf, of, hadf, cf⟩ := (show ∃ g o, adf = some ⟨g, o, none⟩ ∧ wr.cell? ⟨g, o + j, none⟩ = some (.int .i64 (F.getD j 0)) by
              obtain ⟨ad', c', h1, h2⟩ := IJ.out.arow
              injection h1 with h1
              subst h1
              exact h2 j hjm)
            subst hadf
            have hxm : F.getD j 0 ∈ F := by simp [List.getD, hjm]
            rw [HFF.out] at hxm
            obtain ⟨t0, t1, _⟩ := (ls_mem (laB c 0) R _).1 hxm
            rw [← HFF.out] at t0 t1
            obtain ⟨x, hx⟩ : ∃ x : Nat, F.getD j 0 = (x : Int) := ⟨(F.getD j 0).toNat, by omega⟩
            rw [hx] at cf t0 t1
            have xR : x < R := by omega
            have x0 : (0 : Int) ≤ (x : Int) := by omega
            have x1 : (x : Int) < (R : Int) := by omega
            have HRow : Hid (srt (lsF (M2 c n (F.take j) x) R ++ lvO [(x : Int)] F) = lsF (M2 c n (F.take (j + 1)) x) R) := M2_row c R n F j x HFF.out hjm hx
            have MST : Hid (∀ (wx : World) (z : Value), Below wr.heap.size wr wx → IOwn wr.heap.size wx z (lsF (M2 c n (F.take (j + 1)) x) R) → Mt gm R (upV U x z) (M2 c n (F.take (j + 1))) (wx.setCell ⟨gm, x, none⟩ z)) := fun wx z b i => MJ.out.step b xR i (fun z' y _ _ hne => M2_skip c n F j x z' y hjm hx hne)
            have HGs : Hid (w2.heap.size ≤ gm) := by show _ ≤ _; rw [HGm.out]; exact Nat.le_refl _
            obtain ⟨au, cu, hU⟩ := (MJ.out.r x xR).row.is
            obtain ⟨lm, hlm⟩ : ∃ lm, (lsF (M2 c n (F.take j) x) R).length = lm := ⟨_, rfl⟩
            rw [hlm] at hU
            have HU : Hid (U x = .slice au lm cu) := hU
            have HLm : Hid ((lsF (M2 c n (F.take j) x) R).length = lm) := hlm
            have L_W5 : Ly w2 wr gm R U (M2 c n (F.take j)) (.slice (some ⟨gf, of, none⟩) F.length cpf) F wr.drew := Ly.drew ⟨MJ.out, DJ.out, Below.refl _ _, IJ.out⟩
            clear t0 t1 hx hxm hU hlm MJ DJ IJ
            go_upto_region 13 with fail
            generalize hWW : wr.drew = W5 at L_W5
            refine wp_region_held_drew (S := (fun _ : World => True)) (by kernel_rfl) trivial (fun hH => ?_)
            rw [hWW]
            clear hWW
            refine wpAnyH_take (i := 0) (oi := { dst := some 57, op := Op.move (Operand.tmp 4), type := 78, pos := "l13_registers.go:219", after := #[], guard := none }) (v := .slice (some ⟨gm, 0, none⟩) R R) rfl (by kernel_rfl) (by kernel_rfl) (by kernel_rfl) (fun _ _ _ h => h) (Or.inl ⟨by rfl, fun w0 hSw => by go_simp⟩) hH ?_
            simp only [Act.put, List.setIfInBounds_toArray, List.set_cons_zero, List.set_cons_succ]
            refine wpAnyH_take (i := 1) (oi := { dst := some 58, op := Op.move (Operand.tmp 9), type := 3, pos := "l13_registers.go:219", after := #[], guard := none }) (v := .int .i64 (x : Int)) rfl (by kernel_rfl) (by kernel_rfl) (by kernel_rfl) (fun _ _ _ h => h) (Or.inl ⟨by rfl, fun w0 hSw => by go_simp⟩) hH ?_
            simp only [Act.put, List.setIfInBounds_toArray, List.set_cons_zero, List.set_cons_succ]
            refine wpAnyH_take (i := 2) (oi := { dst := some 59, op := Op.move (Operand.tmp 4), type := 78, pos := "l13_registers.go:219", after := #[], guard := none }) (v := .slice (some ⟨gm, 0, none⟩) R R) rfl (by kernel_rfl) (by kernel_rfl) (by kernel_rfl) (fun _ _ _ h => h) (Or.inl ⟨by rfl, fun w0 hSw => by go_simp⟩) hH ?_
            simp only [Act.put, List.setIfInBounds_toArray, List.set_cons_zero, List.set_cons_succ]
            refine wpAnyH_take (i := 3) (oi := { dst := some 60, op := Op.move (Operand.tmp 9), type := 3, pos := "l13_registers.go:219", after := #[], guard := none }) (v := .int .i64 (x : Int)) rfl (by kernel_rfl) (by kernel_rfl) (by kernel_rfl) (fun _ _ _ h => h) (Or.inl ⟨by rfl, fun w0 hSw => by go_simp⟩) hH ?_
            simp only [Act.put, List.setIfInBounds_toArray, List.set_cons_zero, List.set_cons_succ]
            refine wpAnyH_take (i := 4) (oi := { dst := some 61, op := Op.indexAddr 78 (Operand.tmp 59) (Operand.tmp 60), type := 0, pos := "l13_registers.go:219", after := #[{ on := 2, ground := Ground.data }, { on := 3, ground := Ground.data }], guard := none }) (v := .pointer (some ⟨gm, x, none⟩)) rfl (by kernel_rfl) (by kernel_rfl) (by kernel_rfl) (fun _ _ _ h => h) (Or.inl ⟨by rfl, fun w0 hSw => by go_simp⟩) hH ?_
            simp only [Act.put, List.setIfInBounds_toArray, List.set_cons_zero, List.set_cons_succ]
            refine wpAnyH_take (i := 6) (oi := { dst := some 63, op := Op.move (Operand.tmp 7), type := 24, pos := "l13_registers.go:219", after := #[], guard := none }) (v := .slice (some ⟨gf, of, none⟩) F.length cpf) rfl (by kernel_rfl) (by kernel_rfl) (by kernel_rfl) (fun _ _ _ h => h) (Or.inl ⟨by rfl, fun w0 hSw => by go_simp⟩) hH ?_
            simp only [Act.put, List.setIfInBounds_toArray, List.set_cons_zero, List.set_cons_succ]
            refine wpAnyH_take (i := 7) (oi := { dst := some 64, op := Op.move (Operand.tmp 9), type := 3, pos := "l13_registers.go:219", after := #[], guard := none }) (v := .int .i64 (x : Int)) rfl (by kernel_rfl) (by kernel_rfl) (by kernel_rfl) (fun _ _ _ h => h) (Or.inl ⟨by rfl, fun w0 hSw => by go_simp⟩) hH ?_
            simp only [Act.put, List.setIfInBounds_toArray, List.set_cons_zero, List.set_cons_succ]
            refine wpAnyH_ready (rs := [5, 8]) (by kernel_rfl) (by simp) ?_
            refine (AllReadyH.cons (o := { dst := some 62, op := Op.load 24 (Operand.tmp 61), type := 24, pos := "l13_registers.go:219", after := #[{ on := 4, ground := Ground.data }], guard := none }) rfl (fun K hK => ?_) (AllReadyH.cons (o := { dst := some 65, op := Op.buildSlice 24 1 #[(0, Operand.tmp 64)], type := 24, pos := "l13_registers.go:219", after := #[{ on := 7, ground := Ground.data }], guard := none }) rfl (fun K hK => ?_) AllReadyH.nil))
            · have ml_W5 : W5.cell? ⟨gm, x, none⟩ = some (.slice au lm cu) := by rw [← HU.out]; exact L_W5.mt.c x xR
              refine step_val (.slice au lm cu) W5 (by rfl) (by go_simp) ?_
              simp only [Act.put, List.setIfInBounds_toArray, List.set_cons_zero, List.set_cons_succ]
              refine hK.out _ _ trivial (fun hH' => ?_)
              clear hK K hH'
              refine wpAnyH_ready (rs := [8]) (by kernel_rfl) (by simp) ?_
              refine (AllReadyH.cons (o := { dst := some 65, op := Op.buildSlice 24 1 #[(0, Operand.tmp 64)], type := 24, pos := "l13_registers.go:219", after := #[{ on := 7, ground := Ground.data }], guard := none }) rfl (fun K hK => ?_) AllReadyH.nil)
              refine step_val (.slice (some ⟨W5.heap.size, 0, none⟩) 1 1) (W5.alloc (.cells #[.int .i64 (x : Int)] 3)) (by rfl) (by go_simp) ?_
              simp only [Act.put, List.setIfInBounds_toArray, List.set_cons_zero, List.set_cons_succ]
              refine hK.out _ _ trivial (fun hH' => ?_)
              clear hK K hH'
              have L_wA : Ly w2 wr gm R U (M2 c n (F.take j)) (.slice (some ⟨gf, of, none⟩) F.length cpf) F (W5.alloc (.cells #[.int .i64 (x : Int)] 3)) := L_W5.next ((Below.refl _ _).alloc (Nat.le_refl _) _)
              have R_wA : ARow (W5.alloc (.cells #[.int .i64 (x : Int)] 3)) (.slice (some ⟨W5.heap.size, 0, none⟩) 1 1) [(x : Int)] := IRow.arow (Or.inr ⟨_, 1, rfl, Nat.le_refl _, ints_new W5 [(x : Int)]⟩)
              generalize hqA : W5.heap.size = qA at R_wA ⊢
              clear hqA
              generalize (W5.alloc (.cells #[.int .i64 (x : Int)] 3)) = wA at L_wA R_wA ⊢
              refine wpAnyH_ready (rs := [9]) (by kernel_rfl) (by simp) ?_
              refine (AllReadyH.cons (o := { dst := some 66, op := Op.call { callee := Callee.value (Operand.func 85), args := #[Operand.tmp 63, Operand.tmp 65], argTypes := #[24, 24] }, type := 24, pos := "l13_registers.go:219", after := #[{ on := 6, ground := Ground.data }, { on := 8, ground := Ground.data }], guard := none }) rfl (fun K hK => ?_) AllReadyH.nil)
              refine step_callC 85 #[.slice (some ⟨gf, of, none⟩) F.length cpf, .slice (some ⟨qA, 0, none⟩) 1 1] (fun z v w' => IOwn v.heap.size w' z (lvO [(x : Int)] F) ∧ Below v.heap.size v w') (by rfl) (by go_simp) ((leaving49 (.slice (some ⟨gf, of, none⟩) F.length cpf) _ F [(x : Int)] wA (by omega) (by simp) L_wA.i.arow R_wA).mono fun e w' ⟨z, h1, h2, h3⟩ => ⟨z, h1, h2, h3⟩) ?_
              rintro z49 w49 ⟨I49, B49⟩
              obtain ⟨ad49, cp49, rfl⟩ := I49.row.is
              simp only [Act.put, List.setIfInBounds_toArray, List.set_cons_zero, List.set_cons_succ]
              refine hK.out _ _ trivial (fun hH' => ?_)
              clear hK K hH'
              have L_w49 := L_wA.next B49
              refine wpAnyH_ready (rs := [10]) (by kernel_rfl) (by simp) ?_
              refine (AllReadyH.cons (o := { dst := some 67, op := Op.call { callee := Callee.value (Operand.func 82), args := #[Operand.tmp 62, Operand.tmp 66], argTypes := #[24, 24] }, type := 24, pos := "l13_registers.go:219", after := #[{ on := 5, ground := Ground.data }, { on := 9, ground := Ground.data }, { on := 9, ground := Ground.chain }], guard := none }) rfl (fun K hK => ?_) AllReadyH.nil)
              refine step_callC 82 #[.slice au lm cu, .slice ad49 (lvO [(x : Int)] F).length cp49] (fun z v w' => IOwn v.heap.size w' z (lsF (M2 c n (F.take (j + 1)) x) R) ∧ Below v.heap.size v w') (by rfl) (by go_simp) ((union46 _ _ (lsF (M2 c n (F.take j) x) R) (lvO [(x : Int)] F) w49 (by have := HLl.out (M2 c n (F.take j) x); have := lvO_len [(x : Int)] F; omega) (by rw [← HU.out]; exact (L_w49.mt.r x xR).arow) I49.arow).mono fun e w' ⟨z, h1, h2, h3⟩ => ⟨z, h1, by rw [← HRow.out]; exact h2, h3⟩) ?_
              rintro z46 w46 ⟨I46, B46⟩
              obtain ⟨ad46, cp46, rfl⟩ := I46.row.is
              simp only [Act.put, List.setIfInBounds_toArray, List.set_cons_zero, List.set_cons_succ]
              refine hK.out _ _ trivial (fun hH' => ?_)
              clear hK K hH'
              have L_w46 := L_w49.next B46
              have m6 : w46.cell? ⟨gm, x, none⟩ = some (.slice au lm cu) := by rw [← HU.out]; exact L_w46.mt.c x xR
              have f6 := L_w46.mt.f x
              refine wpAnyH_take (i := 11) (oi := { dst := some 68, op := Op.indexAddr 78 (Operand.tmp 57) (Operand.tmp 58), type := 0, pos := "l13_registers.go:219", after := #[{ on := 0, ground := Ground.data }, { on := 1, ground := Ground.data }, { on := 0, ground := Ground.phase }, { on := 1, ground := Ground.phase }, { on := 2, ground := Ground.phase }, { on := 3, ground := Ground.phase }, { on := 4, ground := Ground.phase }, { on := 5, ground := Ground.phase }, { on := 6, ground := Ground.phase }, { on := 7, ground := Ground.phase }, { on := 8, ground := Ground.phase }, { on := 9, ground := Ground.phase }, { on := 10, ground := Ground.phase }], guard := none }) (v := .pointer (some ⟨gm, x, none⟩)) rfl (by kernel_rfl) (by kernel_rfl) (by kernel_rfl) (fun _ _ _ h => h) (Or.inl ⟨by rfl, fun w0 hSw => by go_simp⟩) hH ?_
              simp only [Act.put, List.setIfInBounds_toArray, List.set_cons_zero, List.set_cons_succ]
              have MN : Hid (Mt gm R (upV U x (.slice ad46 (lsF (M2 c n (F.take (j + 1)) x) R).length cp46)) (M2 c n (F.take (j + 1))) (w46.setCell ⟨gm, x, none⟩ (.slice ad46 (lsF (M2 c n (F.take (j + 1)) x) R).length cp46))) := MST.out _ _ L_w46.s (I46.low L_w49.s.size)
              have DN : Hid (Below w2.heap.size w2 (w46.setCell ⟨gm, x, none⟩ (.slice ad46 (lsF (M2 c n (F.take (j + 1)) x) R).length cp46))) := L_w46.d.setCell (p := ⟨gm, x, none⟩) HGs.out _
              have IN : Hid (IOwn (gm + 1) (w46.setCell ⟨gm, x, none⟩ (.slice ad46 (lsF (M2 c n (F.take (j + 1)) x) R).length cp46)) (.slice (some ⟨gf, of, none⟩) F.length cpf) F) := L_w46.i.only ((Only.refl _ _).setCell _ _) (by omega)
              refine wpAnyH_ready (rs := [12]) (by kernel_rfl) (by simp) ?_
              refine (AllReadyH.cons (o := { dst := none, op := Op.store 24 (Operand.tmp 68) (Operand.tmp 67), type := 0, pos := "l13_registers.go:219", after := #[{ on := 11, ground := Ground.data }, { on := 10, ground := Ground.data }, { on := 10, ground := Ground.chain }, { on := 0, ground := Ground.phase }, { on := 1, ground := Ground.phase }, { on := 2, ground := Ground.phase }, { on := 3, ground := Ground.phase }, { on := 4, ground := Ground.phase }, { on := 5, ground := Ground.phase }, { on := 6, ground := Ground.phase }, { on := 7, ground := Ground.phase }, { on := 8, ground := Ground.phase }, { on := 9, ground := Ground.phase }, { on := 10, ground := Ground.phase }], guard := none }) rfl (fun K hK => ?_) AllReadyH.nil)
              refine step_skip (w46.setCell ⟨gm, x, none⟩ (.slice ad46 (lsF (M2 c n (F.take (j + 1)) x) R).length cp46)) (by rfl) (by go_simp) ?_
              refine hK.out _ _ trivial (fun hH' => ?_)
              clear hK K hH'
              refine wpAnyH_done (by kernel_rfl) ?_ _
              clear hH L_w46 L_w49 I46 I49 B46 m6 f6
              go_wp2
              go_roundw
              case rel => exact ⟨j + 1, _, by omega, by go_num, MN, DN, IN⟩
              case measure => simp [intOf]; omega
            · refine step_val (.slice (some ⟨W5.heap.size, 0, none⟩) 1 1) (W5.alloc (.cells #[.int .i64 (x : Int)] 3)) (by rfl) (by go_simp) ?_
              simp only [Act.put, List.setIfInBounds_toArray, List.set_cons_zero, List.set_cons_succ]
              refine hK.out _ _ trivial (fun hH' => ?_)
              clear hK K hH'
              have L_wA : Ly w2 wr gm R U (M2 c n (F.take j)) (.slice (some ⟨gf, of, none⟩) F.length cpf) F (W5.alloc (.cells #[.int .i64 (x : Int)] 3)) := L_W5.next ((Below.refl _ _).alloc (Nat.le_refl _) _)
              have R_wA : ARow (W5.alloc (.cells #[.int .i64 (x : Int)] 3)) (.slice (some ⟨W5.heap.size, 0, none⟩) 1 1) [(x : Int)] := IRow.arow (Or.inr ⟨_, 1, rfl, Nat.le_refl _, ints_new W5 [(x : Int)]⟩)
              generalize hqA : W5.heap.size = qA at R_wA ⊢
              clear hqA
              generalize (W5.alloc (.cells #[.int .i64 (x : Int)] 3)) = wA at L_wA R_wA ⊢
              refine wpAnyH_ready (rs := [5, 9]) (by kernel_rfl) (by simp) ?_
              refine (AllReadyH.cons (o := { dst := some 62, op := Op.load 24 (Operand.tmp 61), type := 24, pos := "l13_registers.go:219", after := #[{ on := 4, ground := Ground.data }], guard := none }) rfl (fun K hK => ?_) (AllReadyH.cons (o := { dst := some 66, op := Op.call { callee := Callee.value (Operand.func 85), args := #[Operand.tmp 63, Operand.tmp 65], argTypes := #[24, 24] }, type := 24, pos := "l13_registers.go:219", after := #[{ on := 6, ground := Ground.data }, { on := 8, ground := Ground.data }], guard := none }) rfl (fun K hK => ?_) AllReadyH.nil))
              · have ml_wA : wA.cell? ⟨gm, x, none⟩ = some (.slice au lm cu) := by rw [← HU.out]; exact L_wA.mt.c x xR
                refine step_val (.slice au lm cu) wA (by rfl) (by go_simp) ?_
                simp only [Act.put, List.setIfInBounds_toArray, List.set_cons_zero, List.set_cons_succ]
                refine hK.out _ _ trivial (fun hH' => ?_)
                clear hK K hH'
                refine wpAnyH_ready (rs := [9]) (by kernel_rfl) (by simp) ?_
                refine (AllReadyH.cons (o := { dst := some 66, op := Op.call { callee := Callee.value (Operand.func 85), args := #[Operand.tmp 63, Operand.tmp 65], argTypes := #[24, 24] }, type := 24, pos := "l13_registers.go:219", after := #[{ on := 6, ground := Ground.data }, { on := 8, ground := Ground.data }], guard := none }) rfl (fun K hK => ?_) AllReadyH.nil)
                refine step_callC 85 #[.slice (some ⟨gf, of, none⟩) F.length cpf, .slice (some ⟨qA, 0, none⟩) 1 1] (fun z v w' => IOwn v.heap.size w' z (lvO [(x : Int)] F) ∧ Below v.heap.size v w') (by rfl) (by go_simp) ((leaving49 (.slice (some ⟨gf, of, none⟩) F.length cpf) _ F [(x : Int)] wA (by omega) (by simp) L_wA.i.arow R_wA).mono fun e w' ⟨z, h1, h2, h3⟩ => ⟨z, h1, h2, h3⟩) ?_
                rintro z49 w49 ⟨I49, B49⟩
                obtain ⟨ad49, cp49, rfl⟩ := I49.row.is
                simp only [Act.put, List.setIfInBounds_toArray, List.set_cons_zero, List.set_cons_succ]
                refine hK.out _ _ trivial (fun hH' => ?_)
                clear hK K hH'
                have L_w49 := L_wA.next B49
                refine wpAnyH_ready (rs := [10]) (by kernel_rfl) (by simp) ?_
                refine (AllReadyH.cons (o := { dst := some 67, op := Op.call { callee := Callee.value (Operand.func 82), args := #[Operand.tmp 62, Operand.tmp 66], argTypes := #[24, 24] }, type := 24, pos := "l13_registers.go:219", after := #[{ on := 5, ground := Ground.data }, { on := 9, ground := Ground.data }, { on := 9, ground := Ground.chain }], guard := none }) rfl (fun K hK => ?_) AllReadyH.nil)
                refine step_callC 82 #[.slice au lm cu, .slice ad49 (lvO [(x : Int)] F).length cp49] (fun z v w' => IOwn v.heap.size w' z (lsF (M2 c n (F.take (j + 1)) x) R) ∧ Below v.heap.size v w') (by rfl) (by go_simp) ((union46 _ _ (lsF (M2 c n (F.take j) x) R) (lvO [(x : Int)] F) w49 (by have := HLl.out (M2 c n (F.take j) x); have := lvO_len [(x : Int)] F; omega) (by rw [← HU.out]; exact (L_w49.mt.r x xR).arow) I49.arow).mono fun e w' ⟨z, h1, h2, h3⟩ => ⟨z, h1, by rw [← HRow.out]; exact h2, h3⟩) ?_
                rintro z46 w46 ⟨I46, B46⟩
                obtain ⟨ad46, cp46, rfl⟩ := I46.row.is
                simp only [Act.put, List.setIfInBounds_toArray, List.set_cons_zero, List.set_cons_succ]
                refine hK.out _ _ trivial (fun hH' => ?_)
                clear hK K hH'
                have L_w46 := L_w49.next B46
                have m6 : w46.cell? ⟨gm, x, none⟩ = some (.slice au lm cu) := by rw [← HU.out]; exact L_w46.mt.c x xR
                have f6 := L_w46.mt.f x
                refine wpAnyH_take (i := 11) (oi := { dst := some 68, op := Op.indexAddr 78 (Operand.tmp 57) (Operand.tmp 58), type := 0, pos := "l13_registers.go:219", after := #[{ on := 0, ground := Ground.data }, { on := 1, ground := Ground.data }, { on := 0, ground := Ground.phase }, { on := 1, ground := Ground.phase }, { on := 2, ground := Ground.phase }, { on := 3, ground := Ground.phase }, { on := 4, ground := Ground.phase }, { on := 5, ground := Ground.phase }, { on := 6, ground := Ground.phase }, { on := 7, ground := Ground.phase }, { on := 8, ground := Ground.phase }, { on := 9, ground := Ground.phase }, { on := 10, ground := Ground.phase }], guard := none }) (v := .pointer (some ⟨gm, x, none⟩)) rfl (by kernel_rfl) (by kernel_rfl) (by kernel_rfl) (fun _ _ _ h => h) (Or.inl ⟨by rfl, fun w0 hSw => by go_simp⟩) hH ?_
                simp only [Act.put, List.setIfInBounds_toArray, List.set_cons_zero, List.set_cons_succ]
                have MN : Hid (Mt gm R (upV U x (.slice ad46 (lsF (M2 c n (F.take (j + 1)) x) R).length cp46)) (M2 c n (F.take (j + 1))) (w46.setCell ⟨gm, x, none⟩ (.slice ad46 (lsF (M2 c n (F.take (j + 1)) x) R).length cp46))) := MST.out _ _ L_w46.s (I46.low L_w49.s.size)
                have DN : Hid (Below w2.heap.size w2 (w46.setCell ⟨gm, x, none⟩ (.slice ad46 (lsF (M2 c n (F.take (j + 1)) x) R).length cp46))) := L_w46.d.setCell (p := ⟨gm, x, none⟩) HGs.out _
                have IN : Hid (IOwn (gm + 1) (w46.setCell ⟨gm, x, none⟩ (.slice ad46 (lsF (M2 c n (F.take (j + 1)) x) R).length cp46)) (.slice (some ⟨gf, of, none⟩) F.length cpf) F) := L_w46.i.only ((Only.refl _ _).setCell _ _) (by omega)
                refine wpAnyH_ready (rs := [12]) (by kernel_rfl) (by simp) ?_
                refine (AllReadyH.cons (o := { dst := none, op := Op.store 24 (Operand.tmp 68) (Operand.tmp 67), type := 0, pos := "l13_registers.go:219", after := #[{ on := 11, ground := Ground.data }, { on := 10, ground := Ground.data }, { on := 10, ground := Ground.chain }, { on := 0, ground := Ground.phase }, { on := 1, ground := Ground.phase }, { on := 2, ground := Ground.phase }, { on := 3, ground := Ground.phase }, { on := 4, ground := Ground.phase }, { on := 5, ground := Ground.phase }, { on := 6, ground := Ground.phase }, { on := 7, ground := Ground.phase }, { on := 8, ground := Ground.phase }, { on := 9, ground := Ground.phase }, { on := 10, ground := Ground.phase }], guard := none }) rfl (fun K hK => ?_) AllReadyH.nil)
                refine step_skip (w46.setCell ⟨gm, x, none⟩ (.slice ad46 (lsF (M2 c n (F.take (j + 1)) x) R).length cp46)) (by rfl) (by go_simp) ?_
                refine hK.out _ _ trivial (fun hH' => ?_)
                clear hK K hH'
                refine wpAnyH_done (by kernel_rfl) ?_ _
                clear hH L_w46 L_w49 I46 I49 B46 m6 f6
                go_wp2
                go_roundw
                case rel => exact ⟨j + 1, _, by omega, by go_num, MN, DN, IN⟩
                case measure => simp [intOf]; omega
              · refine step_callC 85 #[.slice (some ⟨gf, of, none⟩) F.length cpf, .slice (some ⟨qA, 0, none⟩) 1 1] (fun z v w' => IOwn v.heap.size w' z (lvO [(x : Int)] F) ∧ Below v.heap.size v w') (by rfl) (by go_simp) ((leaving49 (.slice (some ⟨gf, of, none⟩) F.length cpf) _ F [(x : Int)] wA (by omega) (by simp) L_wA.i.arow R_wA).mono fun e w' ⟨z, h1, h2, h3⟩ => ⟨z, h1, h2, h3⟩) ?_
                rintro z49 w49 ⟨I49, B49⟩
                obtain ⟨ad49, cp49, rfl⟩ := I49.row.is
                simp only [Act.put, List.setIfInBounds_toArray, List.set_cons_zero, List.set_cons_succ]
                refine hK.out _ _ trivial (fun hH' => ?_)
                clear hK K hH'
                have L_w49 := L_wA.next B49
                refine wpAnyH_ready (rs := [5]) (by kernel_rfl) (by simp) ?_
                refine (AllReadyH.cons (o := { dst := some 62, op := Op.load 24 (Operand.tmp 61), type := 24, pos := "l13_registers.go:219", after := #[{ on := 4, ground := Ground.data }], guard := none }) rfl (fun K hK => ?_) AllReadyH.nil)
                have ml_w49 : w49.cell? ⟨gm, x, none⟩ = some (.slice au lm cu) := by rw [← HU.out]; exact L_w49.mt.c x xR
                refine step_val (.slice au lm cu) w49 (by rfl) (by go_simp) ?_
                simp only [Act.put, List.setIfInBounds_toArray, List.set_cons_zero, List.set_cons_succ]
                refine hK.out _ _ trivial (fun hH' => ?_)
                clear hK K hH'
                refine wpAnyH_ready (rs := [10]) (by kernel_rfl) (by simp) ?_
                refine (AllReadyH.cons (o := { dst := some 67, op := Op.call { callee := Callee.value (Operand.func 82), args := #[Operand.tmp 62, Operand.tmp 66], argTypes := #[24, 24] }, type := 24, pos := "l13_registers.go:219", after := #[{ on := 5, ground := Ground.data }, { on := 9, ground := Ground.data }, { on := 9, ground := Ground.chain }], guard := none }) rfl (fun K hK => ?_) AllReadyH.nil)
                refine step_callC 82 #[.slice au lm cu, .slice ad49 (lvO [(x : Int)] F).length cp49] (fun z v w' => IOwn v.heap.size w' z (lsF (M2 c n (F.take (j + 1)) x) R) ∧ Below v.heap.size v w') (by rfl) (by go_simp) ((union46 _ _ (lsF (M2 c n (F.take j) x) R) (lvO [(x : Int)] F) w49 (by have := HLl.out (M2 c n (F.take j) x); have := lvO_len [(x : Int)] F; omega) (by rw [← HU.out]; exact (L_w49.mt.r x xR).arow) I49.arow).mono fun e w' ⟨z, h1, h2, h3⟩ => ⟨z, h1, by rw [← HRow.out]; exact h2, h3⟩) ?_
                rintro z46 w46 ⟨I46, B46⟩
                obtain ⟨ad46, cp46, rfl⟩ := I46.row.is
                simp only [Act.put, List.setIfInBounds_toArray, List.set_cons_zero, List.set_cons_succ]
                refine hK.out _ _ trivial (fun hH' => ?_)
                clear hK K hH'
                have L_w46 := L_w49.next B46
                have m6 : w46.cell? ⟨gm, x, none⟩ = some (.slice au lm cu) := by rw [← HU.out]; exact L_w46.mt.c x xR
                have f6 := L_w46.mt.f x
                refine wpAnyH_take (i := 11) (oi := { dst := some 68, op := Op.indexAddr 78 (Operand.tmp 57) (Operand.tmp 58), type := 0, pos := "l13_registers.go:219", after := #[{ on := 0, ground := Ground.data }, { on := 1, ground := Ground.data }, { on := 0, ground := Ground.phase }, { on := 1, ground := Ground.phase }, { on := 2, ground := Ground.phase }, { on := 3, ground := Ground.phase }, { on := 4, ground := Ground.phase }, { on := 5, ground := Ground.phase }, { on := 6, ground := Ground.phase }, { on := 7, ground := Ground.phase }, { on := 8, ground := Ground.phase }, { on := 9, ground := Ground.phase }, { on := 10, ground := Ground.phase }], guard := none }) (v := .pointer (some ⟨gm, x, none⟩)) rfl (by kernel_rfl) (by kernel_rfl) (by kernel_rfl) (fun _ _ _ h => h) (Or.inl ⟨by rfl, fun w0 hSw => by go_simp⟩) hH ?_
                simp only [Act.put, List.setIfInBounds_toArray, List.set_cons_zero, List.set_cons_succ]
                have MN : Hid (Mt gm R (upV U x (.slice ad46 (lsF (M2 c n (F.take (j + 1)) x) R).length cp46)) (M2 c n (F.take (j + 1))) (w46.setCell ⟨gm, x, none⟩ (.slice ad46 (lsF (M2 c n (F.take (j + 1)) x) R).length cp46))) := MST.out _ _ L_w46.s (I46.low L_w49.s.size)
                have DN : Hid (Below w2.heap.size w2 (w46.setCell ⟨gm, x, none⟩ (.slice ad46 (lsF (M2 c n (F.take (j + 1)) x) R).length cp46))) := L_w46.d.setCell (p := ⟨gm, x, none⟩) HGs.out _
                have IN : Hid (IOwn (gm + 1) (w46.setCell ⟨gm, x, none⟩ (.slice ad46 (lsF (M2 c n (F.take (j + 1)) x) R).length cp46)) (.slice (some ⟨gf, of, none⟩) F.length cpf) F) := L_w46.i.only ((Only.refl _ _).setCell _ _) (by omega)
                refine wpAnyH_ready (rs := [12]) (by kernel_rfl) (by simp) ?_
                refine (AllReadyH.cons (o := { dst := none, op := Op.store 24 (Operand.tmp 68) (Operand.tmp 67), type := 0, pos := "l13_registers.go:219", after := #[{ on := 11, ground := Ground.data }, { on := 10, ground := Ground.data }, { on := 10, ground := Ground.chain }, { on := 0, ground := Ground.phase }, { on := 1, ground := Ground.phase }, { on := 2, ground := Ground.phase }, { on := 3, ground := Ground.phase }, { on := 4, ground := Ground.phase }, { on := 5, ground := Ground.phase }, { on := 6, ground := Ground.phase }, { on := 7, ground := Ground.phase }, { on := 8, ground := Ground.phase }, { on := 9, ground := Ground.phase }, { on := 10, ground := Ground.phase }], guard := none }) rfl (fun K hK => ?_) AllReadyH.nil)
                refine step_skip (w46.setCell ⟨gm, x, none⟩ (.slice ad46 (lsF (M2 c n (F.take (j + 1)) x) R).length cp46)) (by rfl) (by go_simp) ?_
                refine hK.out _ _ trivial (fun hH' => ?_)
                clear hK K hH'
                refine wpAnyH_done (by kernel_rfl) ?_ _
                clear hH L_w46 L_w49 I46 I49 B46 m6 f6
                go_wp2
                go_roundw
                case rel => exact ⟨j + 1, _, by omega, by go_num, MN, DN, IN⟩
                case measure => simp [intOf]; omega
          · obtain rfl : F.length = j := by omega
            have j1 : ¬ (F.length : Int) < (F.length : Int) := by omega
            have MM : Hid (Mt gm R U (M2 c n F) wr) := by
              have := MJ.out
              rw [List.take_length] at this
              exact this
            have h42 := turned42 R R (fun x => lsF (M2 c n F x) R) _ wr (MM.out.arows R) (by omega) (by omega) (fun i hi t ht => by have := (ls_mem _ R t).1 ht; exact ⟨this.1, this.2.1⟩) (fun i hi => by have := HLl.out (M2 c n F i); show (lsF _ R).length ≤ 600; omega)
            clear MJ IJ
            go_wp2_with (go_at_call 86; refine h42.mono ?_; rintro e w5 ⟨u5, rfl, C5, B5⟩; (have C5' := C5.ext (M := fun y => lsF (fun x => M2 c n F x y) R) (fun y hy => col_ls (M2 c n F) R y hy R)); (obtain ⟨gc3, g3, rfl, p3, p4, T3⟩ := C5'))
            have M30 : Hid (Mt gm R U (M3 c n F 0) w5) := (MM.out.next B5).ext (fun x y _ _ => (M3_zero c n F x y).symm)
            have D5 : Hid (Below w2.heap.size w2 w5) := DJ.out.trans (B5.mono DJ.out.size)
            have T5 : Hid (Tc w5 gc3 g3 R (fun y => (lsF (fun x => M2 c n F x y) R).length) (fun y => lsF (fun x => M2 c n F x y) R)) := T3
            have HNg3 : Hid (gc3 ≠ gm ∧ g3 ≠ gm) := by have := MM.out.hg; exact ⟨by omega, by omega⟩
            have HGs : Hid (w2.heap.size ≤ gm) := by show _ ≤ _; rw [HGm.out]; exact Nat.le_refl _
            clear T3 C5 B5 h42 MM DJ p3 p4
            go_loopw [75] (fun i wx => ∃ (j : Nat) (U : Nat → Value), j ≤ R ∧ i = .int .i64 j ∧ Hid (Mt gm R U (M3 c n F j) wx) ∧ Hid (Below w2.heap.size w2 wx) ∧ Hid (Tc wx gc3 g3 R (fun y => (lsF (fun x => M2 c n F x y) R).length) (fun y => lsF (fun x => M2 c n F x y) R))) (fun i _ => R - (intOf i).toNat)
            case atStart => exact ⟨0, _, Nat.zero_le _, rfl, M30, D5, T5⟩
            case round =>
              obtain ⟨x, U, hx, rfl, MJ, DJ, TJ⟩ := hrel
              clear M30 D5 T5
              by_cases xR : x < R
              · have x1 : (x : Int) < (R : Int) := by omega
                have x0 : (0 : Int) ≤ (x : Int) := by omega
                obtain ⟨oo, cl, ho⟩ := TJ.out.col x xR
                obtain ⟨au, cu, hU⟩ := (MJ.out.r x xR).row.is
                have mc := MJ.out.c x xR
                have mf := MJ.out.f x
                rw [hU] at mc
                have AR3 : ARow wr (.slice (some ⟨g3, oo, none⟩) (lsF (fun y => M2 c n F y x) R).length (lsF (fun y => M2 c n F y x) R).length) (lsF (fun y => M2 c n F y x) R) := ⟨_, _, rfl, fun i hi => ⟨g3, oo, rfl, by rw [ho (Nat.lt_of_le_of_lt (Nat.zero_le _) hi)]; exact TJ.out.cel x xR i hi⟩⟩
                have h46 := union46 (.slice au (lsF (M3 c n F x x) R).length cu) _ (lsF (M3 c n F x x) R) (lsF (fun y => M2 c n F y x) R) wr (by have := HLl.out (M3 c n F x x); have := HLl.out (fun y => M2 c n F y x); omega) (by rw [← hU]; exact (MJ.out.r x xR).arow) AR3
                rw [M3_row c R n F x] at h46
                have MST : Hid (∀ (wx : World) (z : Value), Below wr.heap.size wr wx → IOwn wr.heap.size wx z (lsF (M3 c n F (x + 1) x) R) → Mt gm R (upV U x z) (M3 c n F (x + 1)) (wx.setCell ⟨gm, x, none⟩ z)) := fun wx z b i => MJ.out.step b xR i (fun z' y _ _ hne => M3_skip c n F x z' y hne)
                have cl' : wr.cell? ⟨gc3, x, none⟩ = some (.slice (some ⟨g3, oo, none⟩) (lsF (fun y => M2 c n F y x) R).length (lsF (fun y => M2 c n F y x) R).length) := cl
                generalize (lsF (fun y => M2 c n F y x) R).length = l1 at h46 cl'
                generalize (lsF (M3 c n F x x) R).length = l2 at h46 mc hU
                have HU : Hid (U x = .slice au l2 cu) := hU
                clear cl ho AR3 hU
                go_wp2_with (go_at_call 82; refine h46.mono ?_; rintro e w46 ⟨z46, rfl, I46, B46⟩; (obtain ⟨ad46, cp46, rfl⟩ := I46.row.is); (have m6 : w46.cell? ⟨gm, x, none⟩ = some (.slice au l2 cu) := by rw [← HU.out]; exact (MJ.out.next B46).c x xR); (have f6 := (MJ.out.next B46).f x))
                have MN : Hid (Mt gm R (upV U x (.slice ad46 (lsF (M3 c n F (x + 1) x) R).length cp46)) (M3 c n F (x + 1)) (w46.setCell ⟨gm, x, none⟩ (.slice ad46 (lsF (M3 c n F (x + 1) x) R).length cp46))) := MST.out _ _ B46 I46
                have DN : Hid (Below w2.heap.size w2 (w46.setCell ⟨gm, x, none⟩ (.slice ad46 (lsF (M3 c n F (x + 1) x) R).length cp46))) := (DJ.out.trans (B46.mono DJ.out.size)).setCell (p := ⟨gm, x, none⟩) HGs.out _
                have TN : Hid (Tc (w46.setCell ⟨gm, x, none⟩ (.slice ad46 (lsF (M3 c n F (x + 1) x) R).length cp46)) gc3 g3 R (fun y => (lsF (fun x => M2 c n F x y) R).length) (fun y => lsF (fun x => M2 c n F x y) R)) := (TJ.out.next B46).only ((Only.refl _ _).setCell _ _) HNg3.out.1 HNg3.out.2
                clear MJ DJ TJ h46 MST I46 B46
                (try go_wp2)
                go_roundw
                case rel => exact ⟨x + 1, _, by omega, by go_num, MN, DN, TN⟩
                case measure => simp [intOf]; omega
              · obtain rfl : x = R := by omega
                have x1 : ¬ (x : Int) < (x : Int) := by omega
                have AE : Hid (Ans w.heap.size wr (.slice (some ⟨gm, 0, none⟩) x x) x (fun z => lsF (clB c x n z) x)) := (MJ.out.ext (fun z y hz hy => HCl.out z y hz hy)).ans HWg.out
                have BE : Hid (Below w.heap.size w wr) := HB2.out.trans (DJ.out.mono HB2.out.size)
                clear MJ TJ
                go_wp2
                go_ret
                exact HPost.out _ _ AE.out BE.out
end Go.Proofs.YtmeokhppaekhpaaGreatDoor
namespace Go.Proofs.YtmeokhppaekhpaaGreatDoor
open Go.ChangeShapes Go.WideShapes Go.ChangeAt Go.RowKit
set_option linter.unusedVariables false
/-- Those that clash with each register. -/
noncomputable def clL (c : Cd) : Nat → List Int := fun x => lsF (clB c c.R c.n x) c.R
/-- For how many registers there is an answer. -/
def Cd.gr (c : Cd) : Nat := if c.good then c.R else 0
theorem Ans.low {B C : Nat} {w : World} {u : Value} {m : Nat} {L : Nat → List Int} (h : Ans B w u m L) (hC : C ≤ B) : Ans C w u m L := by
  obtain ⟨ad, cp, p, o, h1, h2⟩ := h
  refine ⟨ad, cp, p, o, h1, ⟨fun x hx => ?_, h2.cel, h2.fr, h2.ap, fun x i hx hi => Nat.le_trans hC (h2.lo x i hx hi)⟩⟩
  obtain ⟨gc, a1, a2, a3, a4⟩ := h2.ptr x hx
  exact ⟨gc, a1, Nat.le_trans hC a2, a3, a4⟩
end Go.Proofs.YtmeokhppaekhpaaGreatDoor
