/- The program's NeedsOf. -/
import Derived.Test.YtcgapochcahknaaDoorRof
import Derived.Test.YtcgapochcahknaaDoorMal
import Derived.Test.YtcgapochcahknaaDoorIss
namespace Go.Proofs.YtcgapochcahknaaDoor
open Go.ChangeShapes Go.WideShapes Go.ChangeAt Go.RowKit
set_option linter.unusedVariables false
/-- The block in which row x lies. -/
def pBk (w : World) (q x : Nat) : Nat := match w.cell? ⟨q, x, none⟩ with
  | some (.slice (some a) _ _) => a.block
  | _ => 0
theorem Mq.ans {B B' : Nat} {w : World} {q n cp : Nat} {L : Nat → List Int} (h : Mq B w q n n L) (hB : B' ≤ q) : Ans B' w (.slice (some ⟨q, 0, none⟩) n cp) n L := by
  have key : ∀ x, x < n → 0 < (L x).length → ∃ c, w.cell? ⟨q, x, none⟩ = some (.slice (some ⟨pBk w q x, 0, none⟩) (L x).length c) ∧ B ≤ pBk w q x ∧ Own w (pBk w q x) (L x).length (fun i => .int .i64 ((L x).getD i 0)) := fun x hx hl => by
    obtain ⟨u, h1, h2⟩ := h.row x hx
    rcases h2 with ⟨h3, _⟩ | ⟨g, c, rfl, h4, h5, h6⟩
    · rw [h3] at hl; exact absurd hl (Nat.lt_irrefl 0)
    · have e : pBk w q x = g := by unfold pBk; rw [h1]
      rw [e]
      exact ⟨c, h1, h5, h6⟩
  refine ⟨_, cp, pBk w q, fun _ => 0, rfl, ⟨fun x hx => ⟨q, rfl, hB, ?_, fun y i hy hi => ?_⟩, fun x i hx hi => ?_, fun x i hx hi => ?_, fun x y i j hx hy hi hj e1 e2 => ?_, fun x i hx hi => ?_⟩⟩
  · obtain ⟨u, h1, h2⟩ := h.row x hx
    rcases h2 with ⟨h3, rfl⟩ | ⟨g, c, rfl, h4, h5, h6⟩
    · exact ⟨none, 0, by rw [h1]; show _ = some (Value.slice none (L x).length 0); rw [h3]; rfl, fun q => by rw [h3] at q; exact absurd q (Nat.lt_irrefl 0)⟩
    · exact ⟨some ⟨g, 0, none⟩, c, h1, fun _ => by have e : pBk w q x = g := by { unfold pBk; rw [h1] }; rw [e]⟩
  · obtain ⟨c, _, h2, _⟩ := key y hy (by show 0 < (L y).length; have : i < (L y).length := hi; omega)
    have := h.hB
    omega
  · obtain ⟨c, _, _, h3⟩ := key x hx (by have : i < (L x).length := hi; omega)
    rw [Nat.zero_add]
    exact h3.cell i hi
  · obtain ⟨c, _, _, h3⟩ := key x hx (by have : i < (L x).length := hi; omega)
    exact h3.free _
  · obtain ⟨c1, a1, _, _⟩ := key x hx (by have : i < (L x).length := hi; omega)
    obtain ⟨c2, a2, _, _⟩ := key y hy (by have : j < (L y).length := hj; omega)
    exact h.ap x y _ _ (pBk w q x) hx hy a1 a2 rfl (by rw [e1]; rfl)
  · obtain ⟨c, _, h2, _⟩ := key x hx (by have : i < (L x).length := hi; omega)
    have := h.hB
    omega
theorem fst_take (L : List (Int × Int)) (k : Nat) (hk : k < L.length) : (L.take (k + 1)).map Prod.fst = (L.take k).map Prod.fst ++ [(L.getD k (0, 0)).1] := by
  rw [List.take_add_one, List.map_append]
  simp [List.getD, hk]
set_option maxRecDepth 100000 in
set_option maxHeartbeats 8000000 in
theorem pneedsof (b off cap : Nat) (c : Rc) (w : World) (G : Forms w) (R : Ir w b off c) (hX : c.wd) (hn : c.n ≤ 1048576) : Calls Tryd.prog 20 #[.slice (some ⟨b, off, none⟩) c.n cap] w fun e w' => ∃ u, e = .returned (.tuple #[u, .bool c.row]) ∧ Ans w.heap.size w' u c.nn c.nl ∧ Below w.heap.size w w' := by
  obtain ⟨i3, hi3, hz30, hz31, hz32⟩ := info_parts info3
  obtain ⟨i6, hi6, hz60, hz61, hz62⟩ := info_parts info45
  have h46 := rowof b off cap c w G R hX hn
  have HNN : Hid (c.nn = if c.row then c.n else 0) := rfl
  have HRN : Hid (c.row = true → c.n ≤ 64) := fun h => (Rc.row_n h).2
  clear R hX G hn
  generalize hr : c.row = rw at h46 HNN HRN
  rw [HNN.out]
  clear HNN hr
  obtain ⟨n, hn2⟩ : ∃ n, c.n = n := ⟨_, rfl⟩
  have HN : Hid (c.n = n) := hn2
  rw [hn2] at h46 HRN ⊢
  clear hn2
  cases rw
  case false =>
    simp only [Bool.false_eq_true, if_false]
    go_enter Tryd.func20, Tryd.ntmps20
    go_wp2_with (go_at_call 46; refine h46.mono ?_; rintro e w1 ⟨ua, ul, uc, va, vl, vc, rfl, _, B1⟩)
    go_ret2
    exact ⟨_, rfl, ⟨none, 0, fun _ => 0, fun _ => 0, rfl, ⟨fun x hx => by omega, fun x i hx => by omega, fun x i hx => by omega, fun x y i j hx => by omega, fun x i hx => by omega⟩⟩, B1.alloc B1.size _⟩
  simp only [if_true]
  have hn : n ≤ 64 := HRN.out rfl
  clear HRN
  go_enter Tryd.func20, Tryd.ntmps20
  go_wp2_with (first | (go_at_call 46; refine h46.mono ?_; rintro e w1 ⟨ua, ul, uc, va, vl, vc, rfl, hra, B1⟩; (obtain ⟨hll, nb, hv, hrow⟩ := hra rfl); (rw [HN.out] at hv); (injection hv with hv1 hv2 hv3); (subst va); (subst vl); (subst vc)) | (at_make; refine wpList_make_full _ rfl _ _ 38 rfl (w1.heap.size + 1) 45 i6 (.slice none 0 0) 1 Tryd.underlying38 hi6 hz60 hz61 _ _ _ _ n rfl rfl (by first | rfl | omega) (by first | rfl | omega) (by rw [hz62]; omega) (by unfold maxLen; omega) (by simp) ?_; intro w2 hown2 hgrow2; (have d2 : w2.cell? ⟨w1.heap.size, 1, none⟩ = some (.slice (some ⟨nb, 0, none⟩) n n) := (Below.cell (B := w1.heap.size + 1) ((Below.refl _ _).grown hgrow2 (by simp) (by simp)) (p := ⟨w1.heap.size, 1, none⟩) (Nat.lt_succ_self _)).trans (by simp))))
  have O2 : Own w2 (w1.heap.size + 1) n (fun _ => .slice none 0 0) := by have := own_made hown2; simpa using this
  have BA : Below w1.heap.size w1 (w1.alloc (.cells #[.slice ua ul uc, .slice (some ⟨nb, 0, none⟩) n n] 65)) := alloc_b
  have B2 : Hid (Below w1.heap.size w1 w2) := BA.grown hgrow2 (by have := BA.size; omega) (by simp)
  have M2 : Hid (Mq (w1.heap.size + 1 + 1) w2 (w1.heap.size + 1) n 0 c.nl) := mq_made O2 c.nl
  have S2 : Hid (w1.heap.size + 1 + 1 ≤ w2.heap.size) := O2.hi
  have HRW : Hid (∀ j, j < c.n → ∃ x, w1.cell? ⟨nb, j, none⟩ = some x ∧ PRow w1 x (c.np j)) := hrow
  have HB1 : Hid (Below w.heap.size w w1) := B1
  clear hown2 hgrow2 O2 BA hrow B1 hll hra
  obtain ⟨q, hq⟩ : ∃ q, w1.heap.size + 1 = q := ⟨_, rfl⟩
  have HQ : Hid (w1.heap.size + 1 = q) := hq
  rw [hq] at M2 S2 ⊢
  clear hq
  clear d2
  go_loopw [25] (fun i wr => ∃ j : Nat, j ≤ n ∧ i = .int .i64 j ∧ Hid (Mq (q + 1) wr q n j c.nl) ∧ Hid (Below w1.heap.size w1 wr) ∧ Hid (q + 1 ≤ wr.heap.size)) (fun i _ => n - (intOf i).toNat)
  case atStart => exact ⟨0, Nat.zero_le _, rfl, M2, B2, S2⟩
  case round =>
    obtain ⟨j, hj, rfl, HM, HB, HS⟩ := hrel
    clear M2 B2 S2
    by_cases hjn : j < n
    · have j1 : (j : Int) < (n : Int) := by omega
      have j0 : (0 : Int) ≤ (j : Int) := by omega
      have hjc : j < c.n := by rw [HN.out]; exact hjn
      obtain ⟨x, hx, ad, cc, rfl, hp⟩ := HRW.out j hjc
      have HPR : Hid (∀ i, i < (c.np j).length → ∃ g o, ad = some ⟨g, o, none⟩ ∧ w1.cell? ⟨g, o + i * 2, none⟩ = some (.int .i64 ((c.np j).getD i (0, 0)).1) ∧ w1.cell? ⟨g, o + i * 2 + 1, none⟩ = some (.int .i64 ((c.np j).getD i (0, 0)).2)) := hp
      have cx := cell_nx hx HB.out
      have hln : (c.np j).length ≤ j := c.npk_len j j
      have HFT : Hid (∀ k, k < (c.np j).length → ((c.np j).take (k + 1)).map Prod.fst = ((c.np j).take k).map Prod.fst ++ [((c.np j).getD k (0, 0)).1]) := fun k hk => fst_take _ k hk
      have HTL : Hid (∀ k, (((c.np j).take k).map Prod.fst).length ≤ 64) := fun k => by rw [List.length_map, List.length_take]; omega
      have HE : Hid (c.nl j = ((c.np j).take (c.np j).length).map Prod.fst) := by show _ = _; rw [List.take_length]; exact (c.npk_map j j).symm
      generalize (c.np j).length = ln at *
      have M3 : Hid (Mp (q + 1) wr q n j wr.heap.size c.nl (.slice none 0 0) (((c.np j).take 0).map Prod.fst)) := HM.out.begin hjn HS.out
      obtain ⟨b0, hb0⟩ : ∃ b0, wr.heap.size = b0 := ⟨_, rfl⟩
      rw [hb0] at M3
      clear hb0 HM HS hx hp
      go_wp2
      clear cx
      go_loopw [32] (fun i wx => ∃ (k : Nat) (u : Value), k ≤ ln ∧ i = .int .i64 k ∧ Hid (Mp (q + 1) wx q n j b0 c.nl u (((c.np j).take k).map Prod.fst)) ∧ Hid (Below w1.heap.size w1 wx)) (fun i _ => ln - (intOf i).toNat)
      case atStart => exact ⟨0, _, Nat.zero_le _, rfl, M3, HB⟩
      case round =>
        obtain ⟨k, u, hk, rfl, HP, HB⟩ := hrel
        clear M3
        by_cases hkj : k < ln
        · have k1 : (k : Int) < (ln : Int) := by omega
          have k0 : (0 : Int) ≤ (k : Int) := by omega
          have k9 : ¬ (j : Int) + 1 ≤ (j : Int) := by omega
          obtain ⟨g, o, rfl, h4, h5⟩ := HPR.out k hkj
          have e0 := cell_nx h4 HB.out
          have e1 := cell_nx h5 HB.out
          have HW : Hid (((c.np j).take (k + 1)).map Prod.fst = ((c.np j).take k).map Prod.fst ++ [((c.np j).getD k (0, 0)).1]) := HFT.out k hkj
          have HLn : Hid ((((c.np j).take k).map Prod.fst).length ≤ 64) := HTL.out k
          generalize ((c.np j).getD k (0, 0)).1 = y1 at *
          generalize ((c.np j).getD k (0, 0)).2 = y2 at *
          generalize ((c.np j).take k).map Prod.fst = Q at HP HW HLn
          clear h4 h5
          have HA : Below wr.heap.size wr (wr.alloc (.cells #[.int .i64 y1, .int .i64 y2] 70)).drew := below_drew alloc_b
          have HP1 := Hid.mk (HP.out.next HA)
          have BNW := Hid.mk (HB.out.trans (HA.mono HB.out.size))
          have HY1 : (wr.alloc (.cells #[.int .i64 y1, .int .i64 y2] 70)).drew.cell? ⟨wr.heap.size, 0, none⟩ = some (.int .i64 y1) := by simp
          go_wp2
          generalize hWW : (wr.alloc (.cells #[.int .i64 y1, .int .i64 y2] 70)).drew = WX at HP1 BNW HY1
          refine wp_region_held_drew (S := fun _ => True) (by kernel_rfl) trivial (fun hH => ?_)
          rw [hWW]
          clear hWW HP HB e0 e1 HA
          generalize wr.heap.size = nk at HY1 ⊢
          refine wpAnyH_take (i := 0) (oi := { dst := some 36, op := Op.move (Operand.tmp 6), type := 38, pos := "l14_schedule.go:88", after := #[], guard := none }) (v := .slice (some ⟨q, 0, none⟩) n n) rfl (by kernel_rfl) (by kernel_rfl) (by kernel_rfl) (fun _ _ _ h => h) (Or.inl ⟨by rfl, fun w0 hSw => by (go_simp)⟩) hH ?_
          simp only [Act.put, List.setIfInBounds_toArray, List.set_cons_zero, List.set_cons_succ]
          refine wpAnyH_take (i := 1) (oi := { dst := some 37, op := Op.move (Operand.tmp 7), type := 3, pos := "l14_schedule.go:88", after := #[], guard := none }) (v := .int .i64 (j : Int)) rfl (by kernel_rfl) (by kernel_rfl) (by kernel_rfl) (fun _ _ _ h => h) (Or.inl ⟨by rfl, fun w0 hSw => by (go_simp)⟩) hH ?_
          simp only [Act.put, List.setIfInBounds_toArray, List.set_cons_zero, List.set_cons_succ]
          refine wpAnyH_take (i := 2) (oi := { dst := some 38, op := Op.move (Operand.tmp 6), type := 38, pos := "l14_schedule.go:88", after := #[], guard := none }) (v := .slice (some ⟨q, 0, none⟩) n n) rfl (by kernel_rfl) (by kernel_rfl) (by kernel_rfl) (fun _ _ _ h => h) (Or.inl ⟨by rfl, fun w0 hSw => by (go_simp)⟩) hH ?_
          simp only [Act.put, List.setIfInBounds_toArray, List.set_cons_zero, List.set_cons_succ]
          refine wpAnyH_take (i := 3) (oi := { dst := some 39, op := Op.move (Operand.tmp 7), type := 3, pos := "l14_schedule.go:88", after := #[], guard := none }) (v := .int .i64 (j : Int)) rfl (by kernel_rfl) (by kernel_rfl) (by kernel_rfl) (fun _ _ _ h => h) (Or.inl ⟨by rfl, fun w0 hSw => by (go_simp)⟩) hH ?_
          simp only [Act.put, List.setIfInBounds_toArray, List.set_cons_zero, List.set_cons_succ]
          refine wpAnyH_take (i := 4) (oi := { dst := some 40, op := Op.indexAddr 38 (Operand.tmp 38) (Operand.tmp 39), type := 0, pos := "l14_schedule.go:88", after := #[{ on := 2, ground := Ground.data }, { on := 3, ground := Ground.data }], guard := none }) (v := .pointer (some ⟨q, j, none⟩)) rfl (by kernel_rfl) (by kernel_rfl) (by kernel_rfl) (fun _ _ _ h => h) (Or.inl ⟨by rfl, fun w0 hSw => by (go_simp)⟩) hH ?_
          simp only [Act.put, List.setIfInBounds_toArray, List.set_cons_zero, List.set_cons_succ]
          refine wpAnyH_take (i := 6) (oi := { dst := some 42, op := Op.fieldAddr 70 (Operand.tmp 10) 0, type := 0, pos := "l14_schedule.go:88", after := #[], guard := none }) (v := .pointer (some ⟨nk, 0, none⟩)) rfl (by kernel_rfl) (by kernel_rfl) (by kernel_rfl) (fun _ _ _ h => h) (Or.inl ⟨by rfl, fun w0 hSw => by (go_simp)⟩) hH ?_
          simp only [Act.put, List.setIfInBounds_toArray, List.set_cons_zero, List.set_cons_succ]
          refine wpAnyH_ready (rs := [5, 7]) (by kernel_rfl) (by simp) ?_
          refine (AllReadyH.cons (o := { dst := some 41, op := Op.load 45 (Operand.tmp 40), type := 45, pos := "l14_schedule.go:88", after := #[{ on := 4, ground := Ground.data }], guard := none }) rfl (fun K hK => ?_) (AllReadyH.cons (o := { dst := some 43, op := Op.load 3 (Operand.tmp 42), type := 3, pos := "l14_schedule.go:88", after := #[{ on := 6, ground := Ground.data }], guard := none }) rfl (fun K hK => ?_) AllReadyH.nil))
          · refine step_val u WX (by rfl) (by have h1 := HP1.out.cur; go_simp) ?_
            simp only [Act.put, List.setIfInBounds_toArray, List.set_cons_zero, List.set_cons_succ]
            refine hK.out _ _ trivial (fun hH' => ?_)
            clear hK K hH'
            refine wpAnyH_ready (rs := [7]) (by kernel_rfl) (by simp) ?_
            refine (AllReadyH.cons (o := { dst := some 43, op := Op.load 3 (Operand.tmp 42), type := 3, pos := "l14_schedule.go:88", after := #[{ on := 6, ground := Ground.data }], guard := none }) rfl (fun K hK => ?_) AllReadyH.nil)
            have cy := HY1
            refine step_val (.int .i64 y1) WX (by rfl) (by go_simp) ?_
            simp only [Act.put, List.setIfInBounds_toArray, List.set_cons_zero, List.set_cons_succ]
            refine hK.out _ _ trivial (fun hH' => ?_)
            clear hK K hH' cy
            refine wpAnyH_ready (rs := [8]) (by kernel_rfl) (by simp) ?_
            refine (AllReadyH.cons (o := { dst := some 44, op := Op.buildSlice 45 1 #[(0, Operand.tmp 43)], type := 45, pos := "l14_schedule.go:88", after := #[{ on := 7, ground := Ground.data }], guard := none }) rfl (fun K hK => ?_) AllReadyH.nil)
            refine step_val (.slice (some ⟨WX.heap.size, 0, none⟩) 1 1) (WX.alloc (.cells #[.int .i64 y1] 3)) (by rfl) (by go_simp) ?_
            simp only [Act.put, List.setIfInBounds_toArray, List.set_cons_zero, List.set_cons_succ]
            refine hK.out _ _ trivial (fun hH' => ?_)
            clear hK K hH'
            have HP2 : Hid (Mp (q + 1) (WX.alloc (.cells #[.int .i64 y1] 3)) q n j b0 c.nl u Q) := HP1.out.next alloc_b
            have HY2 := cell_nx HY1 (alloc_b (o := .cells #[.int .i64 y1] 3))
            refine wpAnyH_ready (rs := [9]) (by kernel_rfl) (by simp) ?_
            refine (AllReadyH.cons (o := { dst := some 45, op := Op.call { callee := Callee.builtin Builtin.append, args := #[Operand.tmp 41, Operand.tmp 44], argTypes := #[45, 45] }, type := 45, pos := "l14_schedule.go:88", after := #[{ on := 5, ground := Ground.data }, { on := 8, ground := Ground.data }], guard := none }) rfl (fun K hK => ?_) AllReadyH.nil)
            refine step_append_lies _ (by rfl) (.tmp 41) (.tmp 44) 45 (by rfl) b0 3 i3 (.int .i64 0) 1 8 Tryd.underlying45 hi3 hz30 hz31 hz32 rfl (by decide) u _ _ (by rfl) HP2.out.ri.1 ⟨WX.heap.size, 0, none⟩ 1 1 [.int .i64 y1] (by rfl) rfl (one_new y1) (one_one y1) (by decide) (by have := HLn.out; unfold maxLen; omega) (by have := HLn.out; omega) HP2.out.ri.2 _ rfl ?_
            intro g3 cp3 w3 hown hgrow _ _
            simp only [Act.put, List.setIfInBounds_toArray, List.set_cons_zero, List.set_cons_succ]
            have hs3 := hgrow.size
            obtain ⟨c3, r3⟩ := HP2.out.keep hgrow j
            rw [HP2.out.cur] at c3
            refine hK.out _ _ trivial (fun hH' => ?_)
            clear hK K hH' 
            refine wpAnyH_take (i := 10) (oi := { dst := some 46, op := Op.indexAddr 38 (Operand.tmp 36) (Operand.tmp 37), type := 0, pos := "l14_schedule.go:88", after := #[{ on := 0, ground := Ground.data }, { on := 1, ground := Ground.data }, { on := 0, ground := Ground.phase }, { on := 1, ground := Ground.phase }, { on := 2, ground := Ground.phase }, { on := 3, ground := Ground.phase }, { on := 4, ground := Ground.phase }, { on := 5, ground := Ground.phase }, { on := 6, ground := Ground.phase }, { on := 7, ground := Ground.phase }, { on := 8, ground := Ground.phase }, { on := 9, ground := Ground.phase }], guard := none }) (v := .pointer (some ⟨q, j, none⟩)) rfl (by kernel_rfl) (by kernel_rfl) (by kernel_rfl) (fun _ _ _ h => h) (Or.inl ⟨by rfl, fun w0 hSw => by (go_simp)⟩) hH ?_
            simp only [Act.put, List.setIfInBounds_toArray, List.set_cons_zero, List.set_cons_succ]
            refine wpAnyH_ready (rs := [11]) (by kernel_rfl) (by simp) ?_
            refine (AllReadyH.cons (o := { dst := none, op := Op.store 45 (Operand.tmp 46) (Operand.tmp 45), type := 0, pos := "l14_schedule.go:88", after := #[{ on := 10, ground := Ground.data }, { on := 9, ground := Ground.data }, { on := 9, ground := Ground.chain }, { on := 0, ground := Ground.phase }, { on := 1, ground := Ground.phase }, { on := 2, ground := Ground.phase }, { on := 3, ground := Ground.phase }, { on := 4, ground := Ground.phase }, { on := 5, ground := Ground.phase }, { on := 6, ground := Ground.phase }, { on := 7, ground := Ground.phase }, { on := 8, ground := Ground.phase }, { on := 9, ground := Ground.phase }], guard := none }) rfl (fun K hK => ?_) AllReadyH.nil)
            have U3 : Ri b0 w3 (.slice (some ⟨g3, 0, none⟩) (Q.length + 1) cp3) (Q ++ [y1]) := ⟨by rw [List.length_append, il_app]; exact hown, Nat.le_trans HP2.out.ri.2 hs3⟩
            have PN : Hid (Mp (q + 1) (w3.setCell ⟨q, j, none⟩ (.slice (some ⟨g3, 0, none⟩) (Q.length + 1) cp3)) q n j b0 c.nl (.slice (some ⟨g3, 0, none⟩) (Q.length + 1) cp3) (((c.np j).take (k + 1)).map Prod.fst)) := by show Mp _ _ _ _ _ _ _ _ _; rw [HW.out]; exact HP2.out.push hgrow U3 (fun g hg => (HP2.out.ri.lt g hg).1)
            have BN : Hid (Below w1.heap.size w1 (w3.setCell ⟨q, j, none⟩ (.slice (some ⟨g3, 0, none⟩) (Q.length + 1) cp3))) := ((BNW.out.trans ((show Below WX.heap.size WX (WX.alloc (.cells #[.int .i64 y1] 3)) from alloc_b).mono BNW.out.size)).grown hgrow (by have := BNW.out.size; have := (show Below WX.heap.size WX (WX.alloc (.cells #[.int .i64 y1] 3)) from alloc_b).size; omega) (fun g hg => by have := (HP2.out.ri.lt g hg).1; have := HP2.out.hb; have := HQ.out; omega)).setCell (p := ⟨q, j, none⟩) (by have := HQ.out; show _ ≤ q; omega) _
            refine step_skip (w3.setCell ⟨q, j, none⟩ (.slice (some ⟨g3, 0, none⟩) (Q.length + 1) cp3)) (by rfl) (by go_simp) ?_
            refine hK.out _ _ trivial (fun hH' => ?_)
            clear hK K hH' 
            refine wpAnyH_done (by kernel_rfl) ?_ _
            clear U3 hown hgrow
            go_wp2
            go_roundw
            case rel => exact ⟨k + 1, _, by omega, by go_num, PN, BN⟩
            case measure => simp [intOf]; omega
          · have cy := HY1
            refine step_val (.int .i64 y1) WX (by rfl) (by go_simp) ?_
            simp only [Act.put, List.setIfInBounds_toArray, List.set_cons_zero, List.set_cons_succ]
            refine hK.out _ _ trivial (fun hH' => ?_)
            clear hK K hH' cy
            refine wpAnyH_ready (rs := [5, 8]) (by kernel_rfl) (by simp) ?_
            refine (AllReadyH.cons (o := { dst := some 41, op := Op.load 45 (Operand.tmp 40), type := 45, pos := "l14_schedule.go:88", after := #[{ on := 4, ground := Ground.data }], guard := none }) rfl (fun K hK => ?_) (AllReadyH.cons (o := { dst := some 44, op := Op.buildSlice 45 1 #[(0, Operand.tmp 43)], type := 45, pos := "l14_schedule.go:88", after := #[{ on := 7, ground := Ground.data }], guard := none }) rfl (fun K hK => ?_) AllReadyH.nil))
            · refine step_val u WX (by rfl) (by have h1 := HP1.out.cur; go_simp) ?_
              simp only [Act.put, List.setIfInBounds_toArray, List.set_cons_zero, List.set_cons_succ]
              refine hK.out _ _ trivial (fun hH' => ?_)
              clear hK K hH'
              refine wpAnyH_ready (rs := [8]) (by kernel_rfl) (by simp) ?_
              refine (AllReadyH.cons (o := { dst := some 44, op := Op.buildSlice 45 1 #[(0, Operand.tmp 43)], type := 45, pos := "l14_schedule.go:88", after := #[{ on := 7, ground := Ground.data }], guard := none }) rfl (fun K hK => ?_) AllReadyH.nil)
              refine step_val (.slice (some ⟨WX.heap.size, 0, none⟩) 1 1) (WX.alloc (.cells #[.int .i64 y1] 3)) (by rfl) (by go_simp) ?_
              simp only [Act.put, List.setIfInBounds_toArray, List.set_cons_zero, List.set_cons_succ]
              refine hK.out _ _ trivial (fun hH' => ?_)
              clear hK K hH'
              have HP2 : Hid (Mp (q + 1) (WX.alloc (.cells #[.int .i64 y1] 3)) q n j b0 c.nl u Q) := HP1.out.next alloc_b
              have HY2 := cell_nx HY1 (alloc_b (o := .cells #[.int .i64 y1] 3))
              refine wpAnyH_ready (rs := [9]) (by kernel_rfl) (by simp) ?_
              refine (AllReadyH.cons (o := { dst := some 45, op := Op.call { callee := Callee.builtin Builtin.append, args := #[Operand.tmp 41, Operand.tmp 44], argTypes := #[45, 45] }, type := 45, pos := "l14_schedule.go:88", after := #[{ on := 5, ground := Ground.data }, { on := 8, ground := Ground.data }], guard := none }) rfl (fun K hK => ?_) AllReadyH.nil)
              refine step_append_lies _ (by rfl) (.tmp 41) (.tmp 44) 45 (by rfl) b0 3 i3 (.int .i64 0) 1 8 Tryd.underlying45 hi3 hz30 hz31 hz32 rfl (by decide) u _ _ (by rfl) HP2.out.ri.1 ⟨WX.heap.size, 0, none⟩ 1 1 [.int .i64 y1] (by rfl) rfl (one_new y1) (one_one y1) (by decide) (by have := HLn.out; unfold maxLen; omega) (by have := HLn.out; omega) HP2.out.ri.2 _ rfl ?_
              intro g3 cp3 w3 hown hgrow _ _
              simp only [Act.put, List.setIfInBounds_toArray, List.set_cons_zero, List.set_cons_succ]
              have hs3 := hgrow.size
              obtain ⟨c3, r3⟩ := HP2.out.keep hgrow j
              rw [HP2.out.cur] at c3
              refine hK.out _ _ trivial (fun hH' => ?_)
              clear hK K hH' 
              refine wpAnyH_take (i := 10) (oi := { dst := some 46, op := Op.indexAddr 38 (Operand.tmp 36) (Operand.tmp 37), type := 0, pos := "l14_schedule.go:88", after := #[{ on := 0, ground := Ground.data }, { on := 1, ground := Ground.data }, { on := 0, ground := Ground.phase }, { on := 1, ground := Ground.phase }, { on := 2, ground := Ground.phase }, { on := 3, ground := Ground.phase }, { on := 4, ground := Ground.phase }, { on := 5, ground := Ground.phase }, { on := 6, ground := Ground.phase }, { on := 7, ground := Ground.phase }, { on := 8, ground := Ground.phase }, { on := 9, ground := Ground.phase }], guard := none }) (v := .pointer (some ⟨q, j, none⟩)) rfl (by kernel_rfl) (by kernel_rfl) (by kernel_rfl) (fun _ _ _ h => h) (Or.inl ⟨by rfl, fun w0 hSw => by (go_simp)⟩) hH ?_
              simp only [Act.put, List.setIfInBounds_toArray, List.set_cons_zero, List.set_cons_succ]
              refine wpAnyH_ready (rs := [11]) (by kernel_rfl) (by simp) ?_
              refine (AllReadyH.cons (o := { dst := none, op := Op.store 45 (Operand.tmp 46) (Operand.tmp 45), type := 0, pos := "l14_schedule.go:88", after := #[{ on := 10, ground := Ground.data }, { on := 9, ground := Ground.data }, { on := 9, ground := Ground.chain }, { on := 0, ground := Ground.phase }, { on := 1, ground := Ground.phase }, { on := 2, ground := Ground.phase }, { on := 3, ground := Ground.phase }, { on := 4, ground := Ground.phase }, { on := 5, ground := Ground.phase }, { on := 6, ground := Ground.phase }, { on := 7, ground := Ground.phase }, { on := 8, ground := Ground.phase }, { on := 9, ground := Ground.phase }], guard := none }) rfl (fun K hK => ?_) AllReadyH.nil)
              have U3 : Ri b0 w3 (.slice (some ⟨g3, 0, none⟩) (Q.length + 1) cp3) (Q ++ [y1]) := ⟨by rw [List.length_append, il_app]; exact hown, Nat.le_trans HP2.out.ri.2 hs3⟩
              have PN : Hid (Mp (q + 1) (w3.setCell ⟨q, j, none⟩ (.slice (some ⟨g3, 0, none⟩) (Q.length + 1) cp3)) q n j b0 c.nl (.slice (some ⟨g3, 0, none⟩) (Q.length + 1) cp3) (((c.np j).take (k + 1)).map Prod.fst)) := by show Mp _ _ _ _ _ _ _ _ _; rw [HW.out]; exact HP2.out.push hgrow U3 (fun g hg => (HP2.out.ri.lt g hg).1)
              have BN : Hid (Below w1.heap.size w1 (w3.setCell ⟨q, j, none⟩ (.slice (some ⟨g3, 0, none⟩) (Q.length + 1) cp3))) := ((BNW.out.trans ((show Below WX.heap.size WX (WX.alloc (.cells #[.int .i64 y1] 3)) from alloc_b).mono BNW.out.size)).grown hgrow (by have := BNW.out.size; have := (show Below WX.heap.size WX (WX.alloc (.cells #[.int .i64 y1] 3)) from alloc_b).size; omega) (fun g hg => by have := (HP2.out.ri.lt g hg).1; have := HP2.out.hb; have := HQ.out; omega)).setCell (p := ⟨q, j, none⟩) (by have := HQ.out; show _ ≤ q; omega) _
              refine step_skip (w3.setCell ⟨q, j, none⟩ (.slice (some ⟨g3, 0, none⟩) (Q.length + 1) cp3)) (by rfl) (by go_simp) ?_
              refine hK.out _ _ trivial (fun hH' => ?_)
              clear hK K hH' 
              refine wpAnyH_done (by kernel_rfl) ?_ _
              clear U3 hown hgrow
              go_wp2
              go_roundw
              case rel => exact ⟨k + 1, _, by omega, by go_num, PN, BN⟩
              case measure => simp [intOf]; omega
            · refine step_val (.slice (some ⟨WX.heap.size, 0, none⟩) 1 1) (WX.alloc (.cells #[.int .i64 y1] 3)) (by rfl) (by go_simp) ?_
              simp only [Act.put, List.setIfInBounds_toArray, List.set_cons_zero, List.set_cons_succ]
              refine hK.out _ _ trivial (fun hH' => ?_)
              clear hK K hH'
              have HP2 : Hid (Mp (q + 1) (WX.alloc (.cells #[.int .i64 y1] 3)) q n j b0 c.nl u Q) := HP1.out.next alloc_b
              have HY2 := cell_nx HY1 (alloc_b (o := .cells #[.int .i64 y1] 3))
              refine wpAnyH_ready (rs := [5]) (by kernel_rfl) (by simp) ?_
              refine (AllReadyH.cons (o := { dst := some 41, op := Op.load 45 (Operand.tmp 40), type := 45, pos := "l14_schedule.go:88", after := #[{ on := 4, ground := Ground.data }], guard := none }) rfl (fun K hK => ?_) AllReadyH.nil)
              refine step_val u (WX.alloc (.cells #[.int .i64 y1] 3)) (by rfl) (by have h1 := HP2.out.cur; go_simp) ?_
              simp only [Act.put, List.setIfInBounds_toArray, List.set_cons_zero, List.set_cons_succ]
              refine hK.out _ _ trivial (fun hH' => ?_)
              clear hK K hH'
              refine wpAnyH_ready (rs := [9]) (by kernel_rfl) (by simp) ?_
              refine (AllReadyH.cons (o := { dst := some 45, op := Op.call { callee := Callee.builtin Builtin.append, args := #[Operand.tmp 41, Operand.tmp 44], argTypes := #[45, 45] }, type := 45, pos := "l14_schedule.go:88", after := #[{ on := 5, ground := Ground.data }, { on := 8, ground := Ground.data }], guard := none }) rfl (fun K hK => ?_) AllReadyH.nil)
              refine step_append_lies _ (by rfl) (.tmp 41) (.tmp 44) 45 (by rfl) b0 3 i3 (.int .i64 0) 1 8 Tryd.underlying45 hi3 hz30 hz31 hz32 rfl (by decide) u _ _ (by rfl) HP2.out.ri.1 ⟨WX.heap.size, 0, none⟩ 1 1 [.int .i64 y1] (by rfl) rfl (one_new y1) (one_one y1) (by decide) (by have := HLn.out; unfold maxLen; omega) (by have := HLn.out; omega) HP2.out.ri.2 _ rfl ?_
              intro g3 cp3 w3 hown hgrow _ _
              simp only [Act.put, List.setIfInBounds_toArray, List.set_cons_zero, List.set_cons_succ]
              have hs3 := hgrow.size
              obtain ⟨c3, r3⟩ := HP2.out.keep hgrow j
              rw [HP2.out.cur] at c3
              refine hK.out _ _ trivial (fun hH' => ?_)
              clear hK K hH' 
              refine wpAnyH_take (i := 10) (oi := { dst := some 46, op := Op.indexAddr 38 (Operand.tmp 36) (Operand.tmp 37), type := 0, pos := "l14_schedule.go:88", after := #[{ on := 0, ground := Ground.data }, { on := 1, ground := Ground.data }, { on := 0, ground := Ground.phase }, { on := 1, ground := Ground.phase }, { on := 2, ground := Ground.phase }, { on := 3, ground := Ground.phase }, { on := 4, ground := Ground.phase }, { on := 5, ground := Ground.phase }, { on := 6, ground := Ground.phase }, { on := 7, ground := Ground.phase }, { on := 8, ground := Ground.phase }, { on := 9, ground := Ground.phase }], guard := none }) (v := .pointer (some ⟨q, j, none⟩)) rfl (by kernel_rfl) (by kernel_rfl) (by kernel_rfl) (fun _ _ _ h => h) (Or.inl ⟨by rfl, fun w0 hSw => by (go_simp)⟩) hH ?_
              simp only [Act.put, List.setIfInBounds_toArray, List.set_cons_zero, List.set_cons_succ]
              refine wpAnyH_ready (rs := [11]) (by kernel_rfl) (by simp) ?_
              refine (AllReadyH.cons (o := { dst := none, op := Op.store 45 (Operand.tmp 46) (Operand.tmp 45), type := 0, pos := "l14_schedule.go:88", after := #[{ on := 10, ground := Ground.data }, { on := 9, ground := Ground.data }, { on := 9, ground := Ground.chain }, { on := 0, ground := Ground.phase }, { on := 1, ground := Ground.phase }, { on := 2, ground := Ground.phase }, { on := 3, ground := Ground.phase }, { on := 4, ground := Ground.phase }, { on := 5, ground := Ground.phase }, { on := 6, ground := Ground.phase }, { on := 7, ground := Ground.phase }, { on := 8, ground := Ground.phase }, { on := 9, ground := Ground.phase }], guard := none }) rfl (fun K hK => ?_) AllReadyH.nil)
              have U3 : Ri b0 w3 (.slice (some ⟨g3, 0, none⟩) (Q.length + 1) cp3) (Q ++ [y1]) := ⟨by rw [List.length_append, il_app]; exact hown, Nat.le_trans HP2.out.ri.2 hs3⟩
              have PN : Hid (Mp (q + 1) (w3.setCell ⟨q, j, none⟩ (.slice (some ⟨g3, 0, none⟩) (Q.length + 1) cp3)) q n j b0 c.nl (.slice (some ⟨g3, 0, none⟩) (Q.length + 1) cp3) (((c.np j).take (k + 1)).map Prod.fst)) := by show Mp _ _ _ _ _ _ _ _ _; rw [HW.out]; exact HP2.out.push hgrow U3 (fun g hg => (HP2.out.ri.lt g hg).1)
              have BN : Hid (Below w1.heap.size w1 (w3.setCell ⟨q, j, none⟩ (.slice (some ⟨g3, 0, none⟩) (Q.length + 1) cp3))) := ((BNW.out.trans ((show Below WX.heap.size WX (WX.alloc (.cells #[.int .i64 y1] 3)) from alloc_b).mono BNW.out.size)).grown hgrow (by have := BNW.out.size; have := (show Below WX.heap.size WX (WX.alloc (.cells #[.int .i64 y1] 3)) from alloc_b).size; omega) (fun g hg => by have := (HP2.out.ri.lt g hg).1; have := HP2.out.hb; have := HQ.out; omega)).setCell (p := ⟨q, j, none⟩) (by have := HQ.out; show _ ≤ q; omega) _
              refine step_skip (w3.setCell ⟨q, j, none⟩ (.slice (some ⟨g3, 0, none⟩) (Q.length + 1) cp3)) (by rfl) (by go_simp) ?_
              refine hK.out _ _ trivial (fun hH' => ?_)
              clear hK K hH' 
              refine wpAnyH_done (by kernel_rfl) ?_ _
              clear U3 hown hgrow
              go_wp2
              go_roundw
              case rel => exact ⟨k + 1, _, by omega, by go_num, PN, BN⟩
              case measure => simp [intOf]; omega
        · obtain rfl : k = ln := by omega
          have k1 : ¬ (k : Int) < (k : Int) := by omega
          have MN : Hid (Mq (q + 1) wr q n (j + 1) c.nl) := HP.out.fin HE.out
          have SN : Hid (q + 1 ≤ wr.heap.size) := HP.out.hq
          clear HP
          go_wp2
          go_roundw
          case rel => exact ⟨j + 1, by omega, by go_num, MN, HB, SN⟩
          case measure => simp [intOf]; omega
    · obtain rfl : n = j := by omega
      have j1 : ¬ (n : Int) < (n : Int) := by omega
      go_wp2
      go_ret2
      exact ⟨_, rfl, HM.out.ans (by have := HQ.out; have := HB1.out.size; omega), HB1.out.trans (HB.out.mono HB1.out.size)⟩
end Go.Proofs.YtcgapochcahknaaDoor
