/- The program's rising, a row's cycles. -/
import Derived.Test.YtcgapochcahknaaDoorRof
namespace Go.Proofs.YtcgapochcahknaaDoor
open Go.ChangeShapes Go.WideShapes Go.ChangeAt Go.RowKit
set_option linter.unusedVariables false
/-- The numbers below n. -/
def upl : Nat → List Int
  | 0 => []
  | k + 1 => upl k ++ [(k : Int)]
theorem upl_len : ∀ k, (upl k).length = k
  | 0 => rfl
  | k + 1 => by rw [upl, List.length_append, upl_len k]; rfl
theorem upl_at : ∀ k i, i < k → (upl k).getD i 0 = (i : Int)
  | 0, i, h => absurd h (Nat.not_lt_zero _)
  | k + 1, i, h => by
    rw [upl]
    by_cases e : i = k
    · subst e
      simp [List.getD, upl_len i]
    · have := upl_at k i (by omega)
      rw [← this]
      simp [List.getD, List.getElem?_append_left (show i < (upl k).length by rw [upl_len]; omega)]
set_option maxRecDepth 100000 in
set_option maxHeartbeats 2000000 in
theorem rising (n : Nat) (w : World) (hn : n ≤ 600) : Calls Tryd.prog 50 #[.int .i64 (n : Int)] w fun e w' => ∃ u, e = .returned u ∧ Ri w.heap.size w' u (upl n) ∧ Below w.heap.size w w' := by
  obtain ⟨i3, hi3, hz30, hz31, hz32⟩ := info_parts info3
  go_enter Tryd.func50, Tryd.ntmps50
  go_wp2
  go_loopw [3, 6] (fun vv i wr => ∃ (k : Nat) (u : Value), k ≤ n ∧ i = .int .i64 k ∧ u = vv ∧ Hid (Ri w.heap.size wr u (upl k)) ∧ Hid (Below w.heap.size w wr)) (fun _ i _ => n - (intOf i).toNat)
  case atStart => exact ⟨0, _, by omega, rfl, rfl, ⟨World.ownsRow_nil _ _ _ _, Nat.le_refl _⟩, Below.refl _ _⟩
  case round =>
    obtain ⟨k, u, hk, rfl, rfl, HU, HB⟩ := hrel
    by_cases hkn : k < n
    · have i1 : (k : Int) < (n : Int) := by omega
      have i0 : (0 : Int) ≤ (k : Int) := by omega
      have HC : Hid (upl (k + 1) = upl k ++ [(k : Int)]) := rfl
      have HLn : Hid ((upl k).length ≤ 600) := by show _ ≤ _; rw [upl_len]; omega
      generalize upl k = L at HU HC HLn
      go_wp2_with (at_builtin; refine wpList_append_own _ rfl _ _ 45 rfl w.heap.size 3 i3 (.int .i64 0) 1 8 Tryd.underlying45 hi3 hz30 hz31 hz32 rfl (by decide) _ _ _ rfl (HU.out.alloc _).1 ⟨_, 0, none⟩ 1 1 [.int .i64 (k : Int)] rfl rfl (one_new _) (one_one _) (by have := HLn.out; unfold maxLen; omega) (by have := HLn.out; omega) (by have := HB.out.size; simp; omega) ?_; intro v3 w3 hown hgrow _)
      have B3 : Hid (Below w.heap.size w w3) := (HB.out.alloc HB.out.size _).grown hgrow (by have := HB.out.size; simp; omega) (fun q hq => (HU.out.lt q hq).1)
      have U3 : Hid (Ri w.heap.size w3 v3 (upl (k + 1))) := by
        show Ri _ _ _ _
        rw [HC.out]
        exact ⟨by rw [List.length_append, il_app]; exact hown, B3.out.size⟩
      go_roundw
      case rel => exact ⟨k + 1, _, by omega, by go_num, rfl, U3, B3⟩
      case measure => simp [intOf]; omega
    · obtain rfl : n = k := by omega
      have i1 : ¬ (n : Int) < (n : Int) := by omega
      go_wp2
      go_ret
      exact ⟨_, rfl, HU.out, HB.out⟩
/-- How late it is by a list of needs. -/
def tp (I : Nat → Nat) (b : Nat) : List (Int × Int) → Nat := List.foldl (fun t p => max t (I p.1.toNat + p.2.toNat)) b
theorem tp_npk (c : Rc) (I : Nat → Nat) (b j : Nat) : ∀ k, tp I b (c.npk j k) = mx (fun i => if c.rw.ned i j then I i + c.rw.wt i j else 0) b k
  | 0 => rfl
  | k + 1 => by
    have ih := tp_npk c I b j k
    have hw := c.wa_rw k j
    unfold tp at ih ⊢
    rw [Rc.npk, List.foldl_append, ih, mx]
    show _ = max _ (if c.nd k j = true then _ else 0)
    cases c.nd k j
    · simp
    · have e : (c.wa k j).toNat = c.rw.wt k j := by omega
      simp [e]
theorem tp_tm (c : Rc) (I : Nat → Nat) (b j : Nat) : tp I b (c.np j) = c.rw.tm I b j := tp_npk c I b j j
theorem tp_step (I : Nat → Nat) (b : Nat) (L : List (Int × Int)) (k : Nat) (hk : k < L.length) : tp I b (L.take (k + 1)) = max (tp I b (L.take k)) (I (L.getD k (0, 0)).1.toNat + (L.getD k (0, 0)).2.toNat) := by
  unfold tp
  rw [List.take_add_one, List.foldl_append]
  simp [List.getD, hk]
theorem tp_le (I : Nat → Nat) (b m : Nat) (hb : b ≤ m) : ∀ L : List (Int × Int), (∀ p ∈ L, I p.1.toNat + p.2.toNat ≤ m) → tp I b L ≤ m
  | [], _ => hb
  | p :: L, h => tp_le I (max b (I p.1.toNat + p.2.toNat)) m (by have := h p (by simp); omega) L (fun q hq => h q (by simp [hq]))
theorem npk_mem (c : Rc) (j : Nat) : ∀ k p, p ∈ c.npk j k → ∃ i : Nat, i < k ∧ p = ((i : Int), c.wa i j)
  | 0, p, h => by cases h
  | k + 1, p, h => by
    rw [Rc.npk] at h
    rcases List.mem_append.1 h with h | h
    · obtain ⟨i, h1, h2⟩ := npk_mem c j k p h
      exact ⟨i, by omega, h2⟩
    · cases hd : c.nd k j
      · rw [hd] at h; simp at h
      · rw [hd] at h; simp at h; exact ⟨k, by omega, h⟩
set_option maxRecDepth 100000 in
set_option maxHeartbeats 4000000 in
theorem pcycles (c : Rc) (p : Nat → Nat) (ps : List Int) (u v q : Value) (w : World) (R : RowA w u v c) (Q : ARow w q ps) (hn : c.n ≤ 64) (hl : ps.length = c.n) (hp : ∀ k, k < c.n → p k < c.n) (hq : ∀ k, k < c.n → ps.getD k 0 = (p k : Int)) : Calls Tryd.prog 49 #[.agg #[u, v], q] w fun e w' => e = .returned (.int .i64 ((c.rw.cyc p : Nat) : Int)) ∧ Below w.heap.size w w' := by
  obtain ⟨i3, hi3, hz30, hz31, hz32⟩ := info_parts info3
  obtain ⟨⟨ua, uc, rfl, hua⟩, nb, rfl, hrow⟩ := R
  obtain ⟨oa, oc, rfl, hoa⟩ := Q
  rw [c.ll_len] at hua ⊢
  rw [hl] at hoa ⊢
  have HUA : Hid (∀ i, i < c.n → ∃ g o, ua = some ⟨g, o, none⟩ ∧ w.cell? ⟨g, o + i, none⟩ = some (.int .i64 (c.la i))) := fun i hi => by
    obtain ⟨g, o, h1, h2⟩ := hua i hi
    rw [c.ll_at c.n i hi] at h2
    exact ⟨g, o, h1, h2⟩
  have HOA : Hid (∀ k, k < c.n → p k < c.n ∧ ∃ g o, oa = some ⟨g, o, none⟩ ∧ w.cell? ⟨g, o + k, none⟩ = some (.int .i64 (p k : Int))) := fun k hk => by
    obtain ⟨g, o, h1, h2⟩ := hoa k hk
    rw [hq k hk] at h2
    exact ⟨hp k hk, g, o, h1, h2⟩
  have HRW : Hid (∀ j, j < c.n → ∃ x, w.cell? ⟨nb, j, none⟩ = some x ∧ PRow w x (c.np j)) := hrow
  have HCY : Hid (c.rw.cyc p = (c.rw.cP p c.n).2.2) := rfl
  have HLE : Hid (∀ k, (∀ i, (c.rw.cP p k).1 i ≤ 9 * k) ∧ (c.rw.cP p k).2.1 ≤ 9 * k ∧ (c.rw.cP p k).2.2 ≤ 9 * k + 8) := fun k => Rw.cP_le c.ok p k
  clear hua hoa hp hq hrow hl
  obtain ⟨n, hn2⟩ : ∃ n, c.n = n := ⟨_, rfl⟩
  have HN : Hid (c.n = n) := hn2
  rw [hn2] at hn HUA HOA HRW HCY ⊢
  rw [HCY.out]
  clear hn2 HCY
  go_enter Tryd.func49, Tryd.ntmps49
  go_wp2_with (at_make; refine wpList_make_full _ rfl _ _ 45 rfl (w.heap.size + 1) 3 i3 (.int .i64 0) 1 Tryd.underlying45 hi3 hz30 hz31 _ _ _ _ n rfl rfl (by first | rfl | omega) (by first | rfl | omega) (by rw [hz32]; omega) (by unfold maxLen; omega) (by simp) ?_; intro w2 hown2 hgrow2)
  have O2 : Own w2 (w.heap.size + 1) n (fun _ => .int .i64 0) := by have := own_made hown2; simpa using this
  have HVB : Below w.heap.size w (w.alloc (.cells #[.slice ua n uc, .slice (some ⟨nb, 0, none⟩) n n] 65)) := alloc_b
  have B2 : Below (w.alloc (.cells #[.slice ua n uc, .slice (some ⟨nb, 0, none⟩) n n] 65)).heap.size (w.alloc (.cells #[.slice ua n uc, .slice (some ⟨nb, 0, none⟩) n n] 65)) w2 := (Below.refl _ _).grown hgrow2 (Nat.le_refl _) (by simp)
  have HV0 : (w.alloc (.cells #[.slice ua n uc, .slice (some ⟨nb, 0, none⟩) n n] 65)).cell? ⟨w.heap.size, 0, none⟩ = some (.slice ua n uc) := by simp
  have HV1 : (w.alloc (.cells #[.slice ua n uc, .slice (some ⟨nb, 0, none⟩) n n] 65)).cell? ⟨w.heap.size, 1, none⟩ = some (.slice (some ⟨nb, 0, none⟩) n n) := by simp
  have HVS : (w.alloc (.cells #[.slice ua n uc, .slice (some ⟨nb, 0, none⟩) n n] 65)).heap.size = w.heap.size + 1 := by simp
  obtain ⟨V, hV⟩ : ∃ V, w.alloc (.cells #[.slice ua n uc, .slice (some ⟨nb, 0, none⟩) n n] 65) = V := ⟨_, rfl⟩
  rw [hV] at HVB B2 HV0 HV1 HVS
  clear hV hown2 hgrow2
  have HUA : Hid (∀ i, i < n → ∃ g o, ua = some ⟨g, o, none⟩ ∧ V.cell? ⟨g, o + i, none⟩ = some (.int .i64 (c.la i))) := fun i hi => by
    obtain ⟨g, o, h1, h2⟩ := HUA.out i hi
    exact ⟨g, o, h1, cell_nx h2 HVB⟩
  have HOA : Hid (∀ k, k < n → p k < n ∧ ∃ g o, oa = some ⟨g, o, none⟩ ∧ V.cell? ⟨g, o + k, none⟩ = some (.int .i64 (p k : Int))) := fun k hk => by
    obtain ⟨h0, g, o, h1, h2⟩ := HOA.out k hk
    exact ⟨h0, g, o, h1, cell_nx h2 HVB⟩
  have HRW : Hid (∀ j, j < n → ∃ x, V.cell? ⟨nb, j, none⟩ = some x ∧ PRow V x (c.np j)) := fun j hj => by
    obtain ⟨x, h1, h2⟩ := HRW.out j hj
    exact ⟨x, cell_nx h1 HVB, h2.next HVB⟩
  obtain ⟨bx, hbx⟩ : ∃ bx, w.heap.size = bx := ⟨_, rfl⟩
  have HBX : Hid (w.heap.size = bx) := hbx
  rw [hbx] at O2 HV0 HV1 HVS ⊢
  have HVB : Hid (Below w.heap.size w V) := HVB
  have HV0 : Hid (V.cell? ⟨bx, 0, none⟩ = some (.slice ua n uc)) := HV0
  have HV1 : Hid (V.cell? ⟨bx, 1, none⟩ = some (.slice (some ⟨nb, 0, none⟩) n n)) := HV1
  obtain ⟨s, hs⟩ : ∃ s, bx + 1 = s := ⟨_, rfl⟩
  rw [hs] at O2 HVS ⊢
  have HVS : Hid (V.heap.size = s) := HVS
  have O2 : Hid (Own w2 s n (fun i => .int .i64 ((c.rw.cP p 0).1 i : Int))) := O2
  have B2 : Hid (Below V.heap.size V w2) := B2
  clear hs hbx
  go_loopw [6, 7, 17] (fun v6 v7 i wr => ∃ k : Nat, k ≤ n ∧ v6 = .int .i64 ((c.rw.cP p k).2.1 : Int) ∧ v7 = .int .i64 ((c.rw.cP p k).2.2 : Int) ∧ i = .int .i64 k ∧ Hid (Own wr s n (fun i => .int .i64 ((c.rw.cP p k).1 i : Int))) ∧ Hid (Below V.heap.size V wr)) (fun _ _ i _ => n - (intOf i).toNat)
  case atStart => exact ⟨0, Nat.zero_le _, rfl, rfl, rfl, O2, B2⟩
  case round =>
    obtain ⟨k, hk, rfl, rfl, rfl, HO, HB⟩ := hrel
    clear O2 B2
    by_cases hkn : k < n
    · have k1 : (k : Int) < (n : Int) := by omega
      have k0 : (0 : Int) ≤ (k : Int) := by omega
      obtain ⟨hpk, g, o, rfl, hc⟩ := HOA.out k hkn
      have co := cell_nx hc HB.out
      have b1 := cell_nx HV1.out HB.out
      obtain ⟨hle1, hle2, hle3⟩ := HLE.out k
      have hle4 := (HLE.out (k + 1)).2.1
      have HLI : Hid (∀ i, (c.rw.cP p k).1 i ≤ 9 * k) := hle1
      have HST : Hid (c.rw.cP p (k + 1) = (upN (c.rw.cP p k).1 (p k) (c.rw.tm (c.rw.cP p k).1 (c.rw.cP p k).2.1 (p k)), c.rw.tm (c.rw.cP p k).1 (c.rw.cP p k).2.1 (p k) + 1, max (c.rw.cP p k).2.2 (c.rw.tm (c.rw.cP p k).1 (c.rw.cP p k).2.1 (p k) + c.rw.lat (p k)))) := rfl
      have hle4 : c.rw.tm (c.rw.cP p k).1 (c.rw.cP p k).2.1 (p k) + 1 ≤ 9 * (k + 1) := by rw [HST.out] at hle4; exact hle4
      obtain ⟨m, hm⟩ : ∃ m, p k = m := ⟨_, rfl⟩
      rw [hm] at hpk co HST hle4
      clear hm
      obtain ⟨I, hI⟩ : ∃ I, (c.rw.cP p k).1 = I := ⟨_, rfl⟩
      obtain ⟨nx, hnx⟩ : ∃ nx, (c.rw.cP p k).2.1 = nx := ⟨_, rfl⟩
      obtain ⟨E, hE⟩ : ∃ E, (c.rw.cP p k).2.2 = E := ⟨_, rfl⟩
      rw [hI] at HO HLI
      rw [hI, hnx] at hle4
      rw [hI, hnx, hE] at HST
      rw [hnx] at hle2 ⊢
      rw [hE] at hle3 ⊢
      clear hI hnx hE hle1 hc
      obtain ⟨x, hx, ad, cc, rfl, hpr⟩ := HRW.out m hpk
      have cx := cell_nx hx HB.out
      have m0 : (0 : Int) ≤ (m : Int) := by omega
      have m1 : (m : Int) < (n : Int) := by omega
      have hln : (c.np m).length ≤ m := c.npk_len m m
      have HPN : Hid (∀ q, q < (c.np m).length → ∃ g o i, ad = some ⟨g, o, none⟩ ∧ V.cell? ⟨g, o + q * 2, none⟩ = some (.int .i64 ((i : Nat) : Int)) ∧ V.cell? ⟨g, o + q * 2 + 1, none⟩ = some (.int .i64 (c.wa i m)) ∧ i < m ∧ tp I nx ((c.np m).take (q + 1)) = max (tp I nx ((c.np m).take q)) (I i + c.rw.wt i m) ∧ c.wa i m = (c.rw.wt i m : Int) ∧ c.rw.wt i m ≤ 8) := fun q hq => by
        obtain ⟨g, o, h1, h2, h3⟩ := hpr q hq
        obtain ⟨i, h4, h5⟩ := npk_mem c m m ((c.np m).getD q (0, 0)) (by have e : (c.np m).getD q (0, 0) = (c.np m)[q] := by {simp [List.getD, hq]}; rw [e]; exact List.getElem_mem hq)
        have h6 := tp_step I nx (c.np m) q hq
        rw [h5] at h2 h3 h6
        have h7 := c.wa_rw i m
        refine ⟨g, o, i, h1, h2, h3, h4, ?_, h7, Rw.Ok.wt8 c.ok i m⟩
        have e : (c.wa i m).toNat = c.rw.wt i m := by omega
        rw [h6]
        simp [e]
      have HTL : Hid (tp I nx ((c.np m).take (c.np m).length) = c.rw.tm I nx m) := by show _ = _; rw [List.take_length]; exact tp_tm c I nx m
      have HTB : Hid (∀ q, tp I nx ((c.np m).take q) ≤ 9 * k + 8) := fun q => tp_le I nx _ (by omega) _ (fun z hz => by
        obtain ⟨i, h4, h5⟩ := npk_mem c m m z (List.mem_of_mem_take hz)
        rw [h5]
        have h7 := c.wa_rw i m
        have h8 := Rw.Ok.wt8 c.ok i m
        have h9 := HLI.out i
        show I (Int.toNat (i : Int)) + (c.wa i m).toNat ≤ _
        rw [Int.toNat_natCast]
        omega)
      clear hx hpr
      generalize (c.np m).length = ln at *
      obtain ⟨W0, hW0⟩ : ∃ W0, wr = W0 := ⟨_, rfl⟩
      rw [hW0] at HO HB co b1 cx ⊢
      clear hW0
      go_wp2
      clear co b1 cx
      go_loopw [6, 27] (fun v6 i wx => ∃ q : Nat, q ≤ ln ∧ v6 = .int .i64 (tp I nx ((c.np m).take q) : Int) ∧ i = .int .i64 q ∧ Hid (Below W0.heap.size W0 wx)) (fun _ i _ => ln - (intOf i).toNat)
      case atStart => exact ⟨0, Nat.zero_le _, rfl, rfl, Below.refl _ _⟩
      case round =>
        obtain ⟨q, hq, rfl, rfl, HX⟩ := hrel
        by_cases hqn : q < ln
        · have q1 : (q : Int) < (ln : Int) := by omega
          have q0 : (0 : Int) ≤ (q : Int) := by omega
          obtain ⟨g2, o2, i, rfl, h4, h5, him, hT, hwa, hw8⟩ := HPN.out q hqn
          have hBV := HB.out.trans (HX.out.mono HB.out.size)
          have e0 := cell_nx h4 hBV
          have e1 := cell_nx h5 hBV
          have i0 : (0 : Int) ≤ (i : Int) := by omega
          have i1 : (i : Int) < (n : Int) := by omega
          have hIi := HLI.out i
          have HT : Hid (tp I nx ((c.np m).take (q + 1)) = max (tp I nx ((c.np m).take q)) (I i + c.rw.wt i m)) := hT
          have hTq := HTB.out q
          generalize c.wa i m = wa at *
          generalize c.rw.wt i m = wt at *
          subst hwa
          obtain ⟨tq, htq⟩ : ∃ tq, tp I nx ((c.np m).take q) = tq := ⟨_, rfl⟩
          rw [htq] at HT hTq ⊢
          obtain ⟨ji, hji⟩ : ∃ ji, I i = ji := ⟨_, rfl⟩
          have hcs := (HO.out.next HX.out).cell i (by omega)
          rw [hji] at HT hIi hcs
          have hwr : IntKind.i64.wrap ((ji : Int) + (wt : Int)) = (ji : Int) + (wt : Int) := by simp [IntKind.wrap, IntKind.bits, IntKind.signed]; omega
          have HA : Below wr.heap.size wr (wr.alloc (.cells #[.int .i64 (i : Int), .int .i64 (wt : Int)] 70)).drew := below_drew alloc_b
          have HXX := Hid.mk (HX.out.trans (HA.mono HX.out.size))
          have HCS := cell_nx hcs HA
          have HY0 : (wr.alloc (.cells #[.int .i64 (i : Int), .int .i64 (wt : Int)] 70)).drew.cell? ⟨wr.heap.size, 0, none⟩ = some (.int .i64 (i : Int)) := by simp
          have HY1 : (wr.alloc (.cells #[.int .i64 (i : Int), .int .i64 (wt : Int)] 70)).drew.cell? ⟨wr.heap.size, 1, none⟩ = some (.int .i64 (wt : Int)) := by simp
          clear h4 h5 htq hji hT hcs hBV
          go_wp2
          generalize hWW : (wr.alloc (.cells #[.int .i64 (i : Int), .int .i64 (wt : Int)] 70)).drew = WX at HXX HCS HY0 HY1
          have hH0 : Below WX.heap.size WX WX := Below.refl _ _
          refine wp_region_held_drew (S := fun v => Below WX.heap.size WX v) (by kernel_rfl) (by rw [hWW]; exact hH0) (fun hH => ?_)
          rw [hWW] at hH ⊢
          clear hWW hH0 HX e0 e1 HA
          generalize wr.heap.size = nk at HY0 HY1 ⊢
          by_cases hgt : (tq : Int) < (ji : Int) + (wt : Int)
          · have RN : Hid ((tp I nx ((c.np m).take (q + 1)) : Int) = (ji : Int) + (wt : Int)) := by have := HT.out; show _ = _; omega
            refine wpAnyH_take (i := 0) (oi := { dst := some 31, op := Op.move (Operand.tmp 6), type := 3, pos := "l14_schedule.go:203", after := #[], guard := none }) (v := .int .i64 (tq : Int)) rfl (by kernel_rfl) (by kernel_rfl) (by kernel_rfl) (fun _ _ _ h => h) (Or.inl ⟨by rfl, fun w0 hSw => by (go_simp)⟩) hH ?_
            simp only [Act.put, List.setIfInBounds_toArray, List.set_cons_zero, List.set_cons_succ]
            refine wpAnyH_take (i := 1) (oi := { dst := some 32, op := Op.move (Operand.tmp 5), type := 45, pos := "l14_schedule.go:203", after := #[], guard := none }) (v := .slice (some ⟨s, 0, none⟩) n n) rfl (by kernel_rfl) (by kernel_rfl) (by kernel_rfl) (fun _ _ _ h => h) (Or.inl ⟨by rfl, fun w0 hSw => by (go_simp)⟩) hH ?_
            simp only [Act.put, List.setIfInBounds_toArray, List.set_cons_zero, List.set_cons_succ]
            refine wpAnyH_take (i := 2) (oi := { dst := some 33, op := Op.fieldAddr 70 (Operand.tmp 11) 0, type := 0, pos := "l14_schedule.go:203", after := #[], guard := none }) (v := .pointer (some ⟨nk, 0, none⟩)) rfl (by kernel_rfl) (by kernel_rfl) (by kernel_rfl) (fun _ _ _ h => h) (Or.inl ⟨by rfl, fun w0 hSw => by (go_simp)⟩) hH ?_
            simp only [Act.put, List.setIfInBounds_toArray, List.set_cons_zero, List.set_cons_succ]
            refine wpAnyH_take (i := 3) (oi := { dst := some 34, op := Op.load 3 (Operand.tmp 33), type := 3, pos := "l14_schedule.go:203", after := #[{ on := 2, ground := Ground.data }], guard := none }) (v := .int .i64 (i : Int)) rfl (by kernel_rfl) (by kernel_rfl) (by kernel_rfl) (fun _ _ _ h => h) (Or.inl ⟨by rfl, fun w0 hSw => by ((have cs := cell_nx HY0 hSw); go_simp)⟩) hH ?_
            simp only [Act.put, List.setIfInBounds_toArray, List.set_cons_zero, List.set_cons_succ]
            refine wpAnyH_take (i := 4) (oi := { dst := some 35, op := Op.indexAddr 45 (Operand.tmp 32) (Operand.tmp 34), type := 0, pos := "l14_schedule.go:203", after := #[{ on := 1, ground := Ground.data }, { on := 3, ground := Ground.data }], guard := none }) (v := .pointer (some ⟨s, i, none⟩)) rfl (by kernel_rfl) (by kernel_rfl) (by kernel_rfl) (fun _ _ _ h => h) (Or.inl ⟨by rfl, fun w0 hSw => by (go_simp)⟩) hH ?_
            simp only [Act.put, List.setIfInBounds_toArray, List.set_cons_zero, List.set_cons_succ]
            refine wpAnyH_take (i := 5) (oi := { dst := some 36, op := Op.load 3 (Operand.tmp 35), type := 3, pos := "l14_schedule.go:203", after := #[{ on := 4, ground := Ground.data }], guard := none }) (v := .int .i64 (ji : Int)) rfl (by kernel_rfl) (by kernel_rfl) (by kernel_rfl) (fun _ _ _ h => h) (Or.inl ⟨by rfl, fun w0 hSw => by ((have cs := cell_nx HCS hSw); go_simp)⟩) hH ?_
            simp only [Act.put, List.setIfInBounds_toArray, List.set_cons_zero, List.set_cons_succ]
            refine wpAnyH_take (i := 6) (oi := { dst := some 37, op := Op.fieldAddr 70 (Operand.tmp 11) 1, type := 0, pos := "l14_schedule.go:203", after := #[], guard := none }) (v := .pointer (some ⟨nk, 1, none⟩)) rfl (by kernel_rfl) (by kernel_rfl) (by kernel_rfl) (fun _ _ _ h => h) (Or.inl ⟨by rfl, fun w0 hSw => by (go_simp)⟩) hH ?_
            simp only [Act.put, List.setIfInBounds_toArray, List.set_cons_zero, List.set_cons_succ]
            refine wpAnyH_take (i := 7) (oi := { dst := some 38, op := Op.load 3 (Operand.tmp 37), type := 3, pos := "l14_schedule.go:203", after := #[{ on := 6, ground := Ground.data }], guard := none }) (v := .int .i64 (wt : Int)) rfl (by kernel_rfl) (by kernel_rfl) (by kernel_rfl) (fun _ _ _ h => h) (Or.inl ⟨by rfl, fun w0 hSw => by ((have cs := cell_nx HY1 hSw); go_simp)⟩) hH ?_
            simp only [Act.put, List.setIfInBounds_toArray, List.set_cons_zero, List.set_cons_succ]
            refine wpAnyH_take (i := 8) (oi := { dst := some 39, op := Op.binOp BinOp.add 3 (Operand.tmp 36) (Operand.tmp 38) 3, type := 3, pos := "l14_schedule.go:203", after := #[{ on := 5, ground := Ground.data }, { on := 7, ground := Ground.data }], guard := none }) (v := .int .i64 ((ji : Int) + (wt : Int))) rfl (by kernel_rfl) (by kernel_rfl) (by kernel_rfl) (fun _ _ _ h => h) (Or.inl ⟨by rfl, fun w0 hSw => by (go_simp)⟩) hH ?_
            simp only [Act.put, List.setIfInBounds_toArray, List.set_cons_zero, List.set_cons_succ]
            refine wpAnyH_ready (rs := [9]) (by kernel_rfl) (by simp) ?_
            refine (AllReadyH.cons (o := { dst := some 40, op := Op.call { callee := Callee.builtin Builtin.max, args := #[Operand.tmp 31, Operand.tmp 39], argTypes := #[3, 3] }, type := 3, pos := "l14_schedule.go:203", after := #[{ on := 0, ground := Ground.data }, { on := 8, ground := Ground.data }], guard := none }) rfl (fun K hK => ?_) AllReadyH.nil)
            refine step_val (.int .i64 ((ji : Int) + (wt : Int))) WX (by rfl) (by go_simp; omega) ?_
            simp only [Act.put, List.setIfInBounds_toArray, List.set_cons_zero, List.set_cons_succ]
            refine hK.out _ _ hH (fun hH' => ?_)
            clear hK K hH'
            refine wpAnyH_take (i := 10) (oi := { dst := some 6, op := Op.assign (Operand.tmp 40), type := 3, pos := "l14_schedule.go:203", after := #[{ on := 9, ground := Ground.data }, { on := 0, ground := Ground.phase }, { on := 1, ground := Ground.phase }, { on := 2, ground := Ground.phase }, { on := 3, ground := Ground.phase }, { on := 4, ground := Ground.phase }, { on := 5, ground := Ground.phase }, { on := 6, ground := Ground.phase }, { on := 7, ground := Ground.phase }, { on := 8, ground := Ground.phase }, { on := 9, ground := Ground.phase }], guard := none }) (v := .int .i64 ((ji : Int) + (wt : Int))) rfl (by kernel_rfl) (by kernel_rfl) (by kernel_rfl) (fun _ _ _ h => h) (Or.inl ⟨by rfl, fun w0 hSw => by (go_simp)⟩) hH ?_
            simp only [Act.put, List.setIfInBounds_toArray, List.set_cons_zero, List.set_cons_succ]
            refine wpAnyH_done (by kernel_rfl) ?_ _
            go_wp2
            go_roundw
            case rel => exact ⟨q + 1, by omega, by rw [RN.out], by go_num, HXX⟩
            case measure => simp [intOf]; omega
          · have RN : Hid ((tp I nx ((c.np m).take (q + 1)) : Int) = (tq : Int)) := by have := HT.out; show _ = _; omega
            refine wpAnyH_take (i := 0) (oi := { dst := some 31, op := Op.move (Operand.tmp 6), type := 3, pos := "l14_schedule.go:203", after := #[], guard := none }) (v := .int .i64 (tq : Int)) rfl (by kernel_rfl) (by kernel_rfl) (by kernel_rfl) (fun _ _ _ h => h) (Or.inl ⟨by rfl, fun w0 hSw => by (go_simp)⟩) hH ?_
            simp only [Act.put, List.setIfInBounds_toArray, List.set_cons_zero, List.set_cons_succ]
            refine wpAnyH_take (i := 1) (oi := { dst := some 32, op := Op.move (Operand.tmp 5), type := 45, pos := "l14_schedule.go:203", after := #[], guard := none }) (v := .slice (some ⟨s, 0, none⟩) n n) rfl (by kernel_rfl) (by kernel_rfl) (by kernel_rfl) (fun _ _ _ h => h) (Or.inl ⟨by rfl, fun w0 hSw => by (go_simp)⟩) hH ?_
            simp only [Act.put, List.setIfInBounds_toArray, List.set_cons_zero, List.set_cons_succ]
            refine wpAnyH_take (i := 2) (oi := { dst := some 33, op := Op.fieldAddr 70 (Operand.tmp 11) 0, type := 0, pos := "l14_schedule.go:203", after := #[], guard := none }) (v := .pointer (some ⟨nk, 0, none⟩)) rfl (by kernel_rfl) (by kernel_rfl) (by kernel_rfl) (fun _ _ _ h => h) (Or.inl ⟨by rfl, fun w0 hSw => by (go_simp)⟩) hH ?_
            simp only [Act.put, List.setIfInBounds_toArray, List.set_cons_zero, List.set_cons_succ]
            refine wpAnyH_take (i := 3) (oi := { dst := some 34, op := Op.load 3 (Operand.tmp 33), type := 3, pos := "l14_schedule.go:203", after := #[{ on := 2, ground := Ground.data }], guard := none }) (v := .int .i64 (i : Int)) rfl (by kernel_rfl) (by kernel_rfl) (by kernel_rfl) (fun _ _ _ h => h) (Or.inl ⟨by rfl, fun w0 hSw => by ((have cs := cell_nx HY0 hSw); go_simp)⟩) hH ?_
            simp only [Act.put, List.setIfInBounds_toArray, List.set_cons_zero, List.set_cons_succ]
            refine wpAnyH_take (i := 4) (oi := { dst := some 35, op := Op.indexAddr 45 (Operand.tmp 32) (Operand.tmp 34), type := 0, pos := "l14_schedule.go:203", after := #[{ on := 1, ground := Ground.data }, { on := 3, ground := Ground.data }], guard := none }) (v := .pointer (some ⟨s, i, none⟩)) rfl (by kernel_rfl) (by kernel_rfl) (by kernel_rfl) (fun _ _ _ h => h) (Or.inl ⟨by rfl, fun w0 hSw => by (go_simp)⟩) hH ?_
            simp only [Act.put, List.setIfInBounds_toArray, List.set_cons_zero, List.set_cons_succ]
            refine wpAnyH_take (i := 5) (oi := { dst := some 36, op := Op.load 3 (Operand.tmp 35), type := 3, pos := "l14_schedule.go:203", after := #[{ on := 4, ground := Ground.data }], guard := none }) (v := .int .i64 (ji : Int)) rfl (by kernel_rfl) (by kernel_rfl) (by kernel_rfl) (fun _ _ _ h => h) (Or.inl ⟨by rfl, fun w0 hSw => by ((have cs := cell_nx HCS hSw); go_simp)⟩) hH ?_
            simp only [Act.put, List.setIfInBounds_toArray, List.set_cons_zero, List.set_cons_succ]
            refine wpAnyH_take (i := 6) (oi := { dst := some 37, op := Op.fieldAddr 70 (Operand.tmp 11) 1, type := 0, pos := "l14_schedule.go:203", after := #[], guard := none }) (v := .pointer (some ⟨nk, 1, none⟩)) rfl (by kernel_rfl) (by kernel_rfl) (by kernel_rfl) (fun _ _ _ h => h) (Or.inl ⟨by rfl, fun w0 hSw => by (go_simp)⟩) hH ?_
            simp only [Act.put, List.setIfInBounds_toArray, List.set_cons_zero, List.set_cons_succ]
            refine wpAnyH_take (i := 7) (oi := { dst := some 38, op := Op.load 3 (Operand.tmp 37), type := 3, pos := "l14_schedule.go:203", after := #[{ on := 6, ground := Ground.data }], guard := none }) (v := .int .i64 (wt : Int)) rfl (by kernel_rfl) (by kernel_rfl) (by kernel_rfl) (fun _ _ _ h => h) (Or.inl ⟨by rfl, fun w0 hSw => by ((have cs := cell_nx HY1 hSw); go_simp)⟩) hH ?_
            simp only [Act.put, List.setIfInBounds_toArray, List.set_cons_zero, List.set_cons_succ]
            refine wpAnyH_take (i := 8) (oi := { dst := some 39, op := Op.binOp BinOp.add 3 (Operand.tmp 36) (Operand.tmp 38) 3, type := 3, pos := "l14_schedule.go:203", after := #[{ on := 5, ground := Ground.data }, { on := 7, ground := Ground.data }], guard := none }) (v := .int .i64 ((ji : Int) + (wt : Int))) rfl (by kernel_rfl) (by kernel_rfl) (by kernel_rfl) (fun _ _ _ h => h) (Or.inl ⟨by rfl, fun w0 hSw => by (go_simp)⟩) hH ?_
            simp only [Act.put, List.setIfInBounds_toArray, List.set_cons_zero, List.set_cons_succ]
            refine wpAnyH_ready (rs := [9]) (by kernel_rfl) (by simp) ?_
            refine (AllReadyH.cons (o := { dst := some 40, op := Op.call { callee := Callee.builtin Builtin.max, args := #[Operand.tmp 31, Operand.tmp 39], argTypes := #[3, 3] }, type := 3, pos := "l14_schedule.go:203", after := #[{ on := 0, ground := Ground.data }, { on := 8, ground := Ground.data }], guard := none }) rfl (fun K hK => ?_) AllReadyH.nil)
            refine step_val (.int .i64 (tq : Int)) WX (by rfl) (by go_simp; omega) ?_
            simp only [Act.put, List.setIfInBounds_toArray, List.set_cons_zero, List.set_cons_succ]
            refine hK.out _ _ hH (fun hH' => ?_)
            clear hK K hH'
            refine wpAnyH_take (i := 10) (oi := { dst := some 6, op := Op.assign (Operand.tmp 40), type := 3, pos := "l14_schedule.go:203", after := #[{ on := 9, ground := Ground.data }, { on := 0, ground := Ground.phase }, { on := 1, ground := Ground.phase }, { on := 2, ground := Ground.phase }, { on := 3, ground := Ground.phase }, { on := 4, ground := Ground.phase }, { on := 5, ground := Ground.phase }, { on := 6, ground := Ground.phase }, { on := 7, ground := Ground.phase }, { on := 8, ground := Ground.phase }, { on := 9, ground := Ground.phase }], guard := none }) (v := .int .i64 (tq : Int)) rfl (by kernel_rfl) (by kernel_rfl) (by kernel_rfl) (fun _ _ _ h => h) (Or.inl ⟨by rfl, fun w0 hSw => by (go_simp)⟩) hH ?_
            simp only [Act.put, List.setIfInBounds_toArray, List.set_cons_zero, List.set_cons_succ]
            refine wpAnyH_done (by kernel_rfl) ?_ _
            go_wp2
            go_roundw
            case rel => exact ⟨q + 1, by omega, by rw [RN.out], by go_num, HXX⟩
            case measure => simp [intOf]; omega
        · obtain rfl : q = ln := by omega
          have q1 : ¬ (q : Int) < (q : Int) := by omega
          rw [HTL.out]
          obtain ⟨t, ht⟩ : ∃ t, c.rw.tm I nx m = t := ⟨_, rfl⟩
          rw [ht] at HST hle4 ⊢
          have OX := HO.out.next HX.out
          have BX := HB.out.trans (HX.out.mono HB.out.size)
          clear HPN HTL HTB ht HO HB HX HLI
          have fs := OX.free m
          have cs := OX.cell m (by omega)
          have ON : Only s wr (wr.setCell ⟨s, m, none⟩ (.int .i64 (t : Int))) := (Only.refl _ _).setCell _ _
          have OS : Hid (Own (wr.setCell ⟨s, m, none⟩ (.int .i64 (t : Int))) s n (fun i => .int .i64 ((c.rw.cP p (k + 1)).1 i : Int))) := by
            show Own _ _ _ _
            rw [HST.out]
            refine OX.set m _ (by omega) (fun i hi => ?_)
            show Value.int .i64 ((upN I m t i : Nat) : Int) = _
            unfold upN
            by_cases e : i = m
            · rw [if_pos e, if_pos e]
            · rw [if_neg e, if_neg e]
          have BS : Hid (Below V.heap.size V (wr.setCell ⟨s, m, none⟩ (.int .i64 (t : Int)))) := BX.trans (ON.below (by have := HVS.out; omega) BX.size)
          obtain ⟨g3, o3, rfl, hl⟩ := HUA.out m hpk
          have b0 := cell_nx HV0.out BS.out
          have cl := cell_nx hl BS.out
          have hla := c.la_bd m
          have HLA : Hid (c.la m = (c.rw.lat m : Int)) := c.la_rw m
          generalize c.la m = la at *
          have H6 : Hid ((((c.rw.cP p (k + 1)).2.1 : Nat) : Int) = (t : Int) + 1) := by show _ = _; rw [HST.out]; show ((t + 1 : Nat) : Int) = _; omega
          have H7 : Hid ((((c.rw.cP p (k + 1)).2.2 : Nat) : Int) = max (E : Int) ((t : Int) + la)) := by show _ = _; rw [HST.out]; show ((max E (t + c.rw.lat m) : Nat) : Int) = _; have := HLA.out; omega
          clear HST OX BX ON hl HLA
          by_cases hgt : (E : Int) < (t : Int) + la
          · have H7 : Hid ((((c.rw.cP p (k + 1)).2.2 : Nat) : Int) = (t : Int) + la) := by have := H7.out; show _ = _; omega
            go_wp2
            go_roundw
            case rel => exact ⟨k + 1, by omega, by rw [H6.out], by rw [H7.out]; go_num, by go_num, OS, BS⟩
            case measure => simp [intOf]; omega
          · have H7 : Hid ((((c.rw.cP p (k + 1)).2.2 : Nat) : Int) = (E : Int)) := by have := H7.out; show _ = _; omega
            go_wp2
            go_roundw
            case rel => exact ⟨k + 1, by omega, by rw [H6.out], by rw [H7.out]; go_num, by go_num, OS, BS⟩
            case measure => simp [intOf]; omega
    · obtain rfl : n = k := by omega
      have k1 : ¬ (n : Int) < (n : Int) := by omega
      go_wp2
      go_ret
      exact ⟨rfl, HVB.out.trans (HB.out.mono HVB.out.size)⟩
end Go.Proofs.YtcgapochcahknaaDoor
