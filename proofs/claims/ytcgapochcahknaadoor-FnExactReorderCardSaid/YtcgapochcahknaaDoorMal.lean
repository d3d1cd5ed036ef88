/- The model's l14Row, l14All and NeedsOf. -/
import Derived.Test.YtcgapochcahknaaDoorMkr
import Derived.Deep.QuietTactic
import Derived.Deep.RegionWith
namespace Go.Proofs.YtcgapochcahknaaDoor
open Go.ChangeShapes Go.WideShapes Go.ChangeAt Go.RowKit
set_option linter.unusedVariables false
set_option maxRecDepth 100000 in
set_option maxHeartbeats 4000000 in
theorem mrow (b off cap : Nat) (c : Rc) (w : World) (R : Ir w b off c) (hX : c.wd) (hn : c.n ≤ 1048576) : Calls Tryd.prog 44 #[.slice (some ⟨b, off, none⟩) c.n cap] w fun e w' => e = .returned (.bool c.row) ∧ Below w.heap.size w w' := by
  have HR := Hid.mk R
  have HX := Hid.mk hX
  have HQ : Hid (c.row = ((decide (1 ≤ c.n) && decide (c.n ≤ 64)) && allB c.gi c.n)) := rfl
  rw [HQ.out]
  obtain ⟨n, hn2⟩ : ∃ n, c.n = n := ⟨_, rfl⟩
  have HN : Hid (c.n = n) := hn2
  rw [hn2] at hn ⊢
  clear hn2 R hX HQ
  by_cases h1 : 1 ≤ n
  case neg =>
    have i1 : (n : Int) < 1 := by omega
    rw [decide_eq_false h1]
    go_enter Tryd.func44, Tryd.ntmps44
    go_wp2
    go_ret
    exact ⟨rfl, Below.refl _ _⟩
  have i1 : ¬ (n : Int) < 1 := by omega
  by_cases h2 : n ≤ 64
  case neg =>
    have i2 : (64 : Int) < (n : Int) := by omega
    rw [decide_eq_true h1, decide_eq_false h2]
    go_enter Tryd.func44, Tryd.ntmps44
    go_wp2
    go_ret
    exact ⟨rfl, Below.refl _ _⟩
  have i2 : ¬ (64 : Int) < (n : Int) := by omega
  rw [decide_eq_true h1, decide_eq_true h2]
  simp only [Bool.true_and]
  go_enter Tryd.func44, Tryd.ntmps44
  go_wp2
  go_loopw [15] (fun i wr => ∃ k : Nat, k ≤ n ∧ i = .int .i64 k ∧ Hid (∀ j, j < k → c.gi j = true) ∧ Hid (Below w.heap.size w wr)) (fun i _ => n - (intOf i).toNat)
  case atStart => exact ⟨0, Nat.zero_le _, rfl, fun j hj => by omega, Below.refl _ _⟩
  case round =>
    obtain ⟨k, hk, rfl, HK, HB⟩ := hrel
    by_cases hkn : k < n
    · have j1 : (k : Int) < (n : Int) := by omega
      have j0 : (0 : Int) ≤ (k : Int) := by omega
      have RW := HR.out.next HB.out
      have hkc : k < c.n := by rw [HN.out]; exact hkn
      have e0 := RW.c0 k hkc
      have e1 := RW.c1 k hkc
      have e2 := RW.c2 k hkc
      have e3 := RW.c3 k hkc
      have e4 := RW.c4 k hkc
      have e5 := RW.c5 k hkc
      have HC := Hid.mk (ins_blk wr (c.O k) (c.D k) (c.A k) (c.B k) (c.C k) (c.X k))
      have h38 := fun v => lg31 (c.O k) (c.D k) (c.A k) (c.B k) (c.C k) (c.X k) 600 v (HX.out k hkc).1 (HX.out k hkc).2 (by decide) (by decide)
      have h78 := fun v => mfree (c.O k) v
      have HG : Hid (c.gi k = (goodI (c.O k) (c.D k) (c.A k) (c.B k) (c.C k) (c.X k) 600 && freeB (c.O k))) := rfl
      clear RW
      generalize goodI (c.O k) (c.D k) (c.A k) (c.B k) (c.C k) (c.X k) 600 = gg at h38 HG
      generalize freeB (c.O k) = ff at h78 HG
      cases gg
      · have HF : Hid (allB c.gi n = false) := allB_stop c.gi k (by rw [HG.out]; rfl) n hkn
        go_wp2_with (go_at_call 38; refine (h38 _).mono ?_; rintro e w1 ⟨rfl, b1⟩; (obtain ⟨⟨d0, d1, d2, d3, d4, d5⟩, B1⟩ := HC.out _ b1))
        go_ret
        exact ⟨by rw [HF.out]; rfl, HB.out.trans (B1.mono HB.out.size)⟩
      · cases ff
        · have HF : Hid (allB c.gi n = false) := allB_stop c.gi k (by rw [HG.out]; rfl) n hkn
          go_wp2_with (first | (go_at_call 38; refine (h38 _).mono ?_; rintro e w1 ⟨rfl, b1⟩; (obtain ⟨⟨d0, d1, d2, d3, d4, d5⟩, B1⟩ := HC.out _ b1)) | (go_at_call 78; refine (h78 _).mono ?_; rintro e w2 ⟨rfl, hw⟩; subst w2))
          go_ret
          exact ⟨by rw [HF.out]; rfl, HB.out.trans (B1.mono HB.out.size)⟩
        · have HKN : Hid (∀ j, j < k + 1 → c.gi j = true) := fun j hj => by
            by_cases q : j = k
            · subst q; rw [HG.out]; rfl
            · exact HK.out j (by omega)
          clear HK
          go_wp2_with (first | (go_at_call 38; refine (h38 _).mono ?_; rintro e w1 ⟨rfl, b1⟩; (obtain ⟨⟨d0, d1, d2, d3, d4, d5⟩, B1⟩ := HC.out _ b1)) | (go_at_call 78; refine (h78 _).mono ?_; rintro e w2 ⟨rfl, hw⟩; subst w2))
          have HB1 : Hid (Below w.heap.size w w1) := HB.out.trans (B1.mono HB.out.size)
          go_roundw
          case rel => exact ⟨k + 1, by omega, by go_num, HKN, HB1⟩
          case measure => simp [intOf]; omega
    · obtain rfl : n = k := by omega
      have j1 : ¬ (n : Int) < (n : Int) := by omega
      have HF : Hid (allB c.gi n = true) := allB_all c.gi n HK.out
      go_wp2
      go_ret
      exact ⟨by rw [HF.out]; rfl, HB.out⟩
theorem info45 : (Tryd.prog.info? 45).map (fun i => (i.zero, i.size, i.bytes)) = some (some (.slice none 0 0), 1, 24) := by kernel_rfl
set_option maxRecDepth 100000 in
set_option maxHeartbeats 8000000 in
theorem mall (b off cap : Nat) (c : Rc) (w : World) (R : Ir w b off c) (hX : c.wd) (hr : c.row = true) : Calls Tryd.prog 45 #[.slice (some ⟨b, off, none⟩) c.n cap] w fun e w' => ∃ q, e = .returned (.slice (some ⟨q, 0, none⟩) c.n c.n) ∧ Mq (q + 1) w' q c.n c.n c.nl ∧ w.heap.size ≤ q ∧ Below w.heap.size w w' := by
  obtain ⟨i3, hi3, hz30, hz31, hz32⟩ := info_parts info3
  obtain ⟨i6, hi6, hz60, hz61, hz62⟩ := info_parts info45
  have HR := Hid.mk R
  have HGI : Hid (∀ k, k < c.n → GI (c.O k) (c.D k) (c.A k) (c.B k) (c.C k) (c.X k)) := fun k hk => (Rc.row_g hr hX k hk).1
  have hn := (Rc.row_n hr).2
  obtain ⟨n, hn2⟩ : ∃ n, c.n = n := ⟨_, rfl⟩
  have HN : Hid (c.n = n) := hn2
  rw [hn2] at hn ⊢
  clear hn2 R hX hr
  go_enter Tryd.func45, Tryd.ntmps45
  go_wp2_with (at_make; refine wpList_make_full _ rfl _ _ 38 rfl w.heap.size 45 i6 (.slice none 0 0) 1 Tryd.underlying38 hi6 hz60 hz61 _ _ _ _ n rfl rfl (by first | rfl | omega) (by first | rfl | omega) (by rw [hz62]; omega) (by unfold maxLen; omega) (by simp) ?_; intro w2 hown2 hgrow2)
  have O2 : Own w2 w.heap.size n (fun _ => .slice none 0 0) := own_made hown2
  have B2 : Hid (Below w.heap.size w w2) := (Below.refl _ _).grown hgrow2 (Nat.le_refl _) (by simp)
  have M2 : Hid (Mq (w.heap.size + 1) w2 w.heap.size n 0 c.nl) := mq_made O2 c.nl
  have S2 : Hid (w.heap.size + 1 ≤ w2.heap.size) := O2.hi
  clear hown2 hgrow2 O2
  obtain ⟨q, hq⟩ : ∃ q, w.heap.size = q := ⟨_, rfl⟩
  have HQ : Hid (w.heap.size = q) := hq
  rw [hq] at M2 S2 ⊢
  clear hq
  go_wp2
  go_loopw [11] (fun i wr => ∃ j : Nat, j ≤ n ∧ i = .int .i64 j ∧ Hid (Mq (q + 1) wr q n j c.nl) ∧ Hid (Below w.heap.size w wr) ∧ Hid (q + 1 ≤ wr.heap.size)) (fun i _ => n - (intOf i).toNat)
  case atStart => exact ⟨0, Nat.zero_le _, rfl, M2, B2, S2⟩
  case round =>
    obtain ⟨j, hj, rfl, HM, HB, HS⟩ := hrel
    clear M2 B2 S2
    by_cases hjn : j < n
    · have j1 : (j : Int) < (n : Int) := by omega
      have j0 : (0 : Int) ≤ (j : Int) := by omega
      have hjc : j < c.n := by rw [HN.out]; exact hjn
      have M3 : Hid (Mp (q + 1) wr q n j wr.heap.size c.nl (.slice none 0 0) (whL (fun i => c.nd i j) 0)) := HM.out.begin hjn HS.out
      obtain ⟨b0, hb0⟩ : ∃ b0, wr.heap.size = b0 := ⟨_, rfl⟩
      rw [hb0] at M3
      have HE : Hid (c.nl j = whL (fun i => c.nd i j) j) := rfl
      clear hb0 HM HS
      go_wp2
      go_loopw [5] (fun i wx => ∃ (k : Nat) (u : Value), k ≤ j ∧ i = .int .i64 k ∧ Hid (Mp (q + 1) wx q n j b0 c.nl u (whL (fun i => c.nd i j) k)) ∧ Hid (Below w.heap.size w wx)) (fun i _ => j - (intOf i).toNat)
      case atStart => exact ⟨0, _, Nat.zero_le _, rfl, M3, HB⟩
      case round =>
        obtain ⟨k, u, hk, rfl, HP, HB⟩ := hrel
        clear M3
        by_cases hkj : k < j
        · have k1 : (k : Int) < (j : Int) := by omega
          have k0 : (0 : Int) ≤ (k : Int) := by omega
          have k2 : (k : Int) < (n : Int) := by omega
          have hkc : k < c.n := by omega
          have HIR := Hid.mk (HR.out.next HB.out)
          have h79 := fun v => mneeds (c.O k) (c.D k) (c.A k) (c.B k) (c.C k) (c.X k) (c.O j) (c.D j) (c.A j) (c.B j) (c.C j) (c.X j) v (HGI.out k hkc) (HGI.out j hjc)
          have e0 := HIR.out.c0 k hkc
          have e1 := HIR.out.c1 k hkc
          have e2 := HIR.out.c2 k hkc
          have e3 := HIR.out.c3 k hkc
          have e4 := HIR.out.c4 k hkc
          have e5 := HIR.out.c5 k hkc
          have f0 := HIR.out.c0 j hjc
          have f1 := HIR.out.c1 j hjc
          have f2 := HIR.out.c2 j hjc
          have f3 := HIR.out.c3 j hjc
          have f4 := HIR.out.c4 j hjc
          have f5 := HIR.out.c5 j hjc
          have HW : Hid (whL (fun i => c.nd i j) (k + 1) = whL (fun i => c.nd i j) k ++ (if c.nd k j then [(k : Int)] else [])) := rfl
          have h79' : ∀ v, Calls Tryd.prog 79 #[.agg #[.int .i64 (c.O k), .int .i64 (c.D k), .int .i64 (c.A k), .int .i64 (c.B k), .int .i64 (c.C k), .int .u32 (c.X k)], .agg #[.int .i64 (c.O j), .int .i64 (c.D j), .int .i64 (c.A j), .int .i64 (c.B j), .int .i64 (c.C j), .int .u32 (c.X j)]] v fun e w' => e = .returned (.bool (c.nd k j)) ∧ Below v.heap.size v w' := h79
          clear h79
          generalize c.nd k j = bb at h79' HW
          cases bb
          · have HW : Hid (whL (fun i => c.nd i j) (k + 1) = whL (fun i => c.nd i j) k) := by have := HW.out; show _ = _; rw [this]; simp
            go_wp2
            go_region_with (go_at_call 79; refine (h79' _).mono ?_; rintro e w2 ⟨rfl, b2⟩; (have B3 : Below wr.heap.size wr w2 := by first | exact b2 | exact (below_drew (Below.refl _ _)).trans b2); clear b2)
            all_goals
              have PN : Hid (Mp (q + 1) w2 q n j b0 c.nl u (whL (fun i => c.nd i j) (k + 1))) := by show Mp _ _ _ _ _ _ _ _ _; rw [HW.out]; exact HP.out.next B3
              have BN : Hid (Below w.heap.size w w2) := HB.out.trans (B3.mono HB.out.size)
              clear HP HB
              go_wp2
              go_roundw
              case rel => exact ⟨k + 1, _, by omega, by go_num, PN, BN⟩
              case measure => simp [intOf]; omega
          · have HW : Hid (whL (fun i => c.nd i j) (k + 1) = whL (fun i => c.nd i j) k ++ [(k : Int)]) := by have := HW.out; show _ = _; rw [this]; simp
            have HLn : Hid ((whL (fun i => c.nd i j) k).length ≤ 64) := by have := whL_len (fun i => c.nd i j) k; show _ ≤ _; omega
            go_wp2
            go_region_with (go_at_call 79; refine (h79' _).mono ?_; rintro e w2 ⟨rfl, b2⟩; (have B3 : Below wr.heap.size wr w2 := by first | exact b2 | exact (below_drew (Below.refl _ _)).trans b2); clear b2)
            all_goals
              have HP3 := Hid.mk (HP.out.next B3)
              have BN2 : Hid (Below w.heap.size w w2) := HB.out.trans (B3.mono HB.out.size)
              have cu := HP3.out.cur
              generalize whL (fun i => c.nd i j) k = Q at HP3 HW HLn
              clear HP HB e0 e1 e2 e3 e4 e5 f0 f1 f2 f3 f4 f5 HIR
              go_wp2_with (at_builtin; refine wpList_append_lies _ rfl _ _ 45 rfl b0 3 i3 (.int .i64 0) 1 8 Tryd.underlying45 hi3 hz30 hz31 hz32 rfl (by decide) _ _ _ rfl (HP3.out.ri.alloc _).1 ⟨_, 0, none⟩ 1 1 [.int .i64 (k : Int)] rfl rfl ?_ ?_ (by decide) ?_ ?_ ?_ _ rfl ?_)
              · intro j u hj
                match j, hj with
                | 0, hj => simp at hj; subst hj; simp [Addr.add]
              · intro u hu; simp at hu; subst hu; rfl
              · have := HLn.out; unfold maxLen; omega
              · have := HLn.out; omega
              · have := HP3.out.ri.2; simp; omega
              intro g3 cp3 w3 hown hgrow _ _
              have HP4 := HP3.out.next ((Below.refl _ _).alloc (Nat.le_refl _) (.cells #[.int .i64 (k : Int)] 3))
              have hs3 := hgrow.size
              obtain ⟨c3, r3⟩ := HP4.keep hgrow j
              rw [HP4.cur] at c3
              have U3 : Ri b0 w3 (.slice (some ⟨g3, 0, none⟩) (Q.length + 1) cp3) (Q ++ [(k : Int)]) := ⟨by rw [List.length_append, il_app]; exact hown, Nat.le_trans HP4.ri.2 hs3⟩
              have PN : Hid (Mp (q + 1) (w3.setCell ⟨q, j, none⟩ (.slice (some ⟨g3, 0, none⟩) (Q.length + 1) cp3)) q n j b0 c.nl (.slice (some ⟨g3, 0, none⟩) (Q.length + 1) cp3) (whL (fun i => c.nd i j) (k + 1))) := by show Mp _ _ _ _ _ _ _ _ _; rw [HW.out]; exact HP4.push hgrow U3 (fun g hg => (HP4.ri.lt g hg).1)
              have BN : Hid (Below w.heap.size w (w3.setCell ⟨q, j, none⟩ (.slice (some ⟨g3, 0, none⟩) (Q.length + 1) cp3))) := ((BN2.out.alloc BN2.out.size _).grown hgrow (by have := BN2.out.size; simp; omega) (fun g hg => by have := (HP4.ri.lt g hg).1; have := HP4.hb; have := HQ.out; omega)).setCell (p := ⟨q, j, none⟩) (by have := HQ.out; show _ ≤ q; omega) _
              clear hown hgrow HP3 HP4 U3 BN2
              go_wp2
              go_roundw
              case rel => exact ⟨k + 1, _, by omega, by go_num, PN, BN⟩
              case measure => simp [intOf]; omega
        · obtain rfl : j = k := by omega
          have k1 : ¬ (j : Int) < (j : Int) := by omega
          have MN : Hid (Mq (q + 1) wr q n (j + 1) c.nl) := HP.out.fin HE.out
          have SN : Hid (q + 1 ≤ wr.heap.size) := HP.out.hq
          clear HP
          go_wp2
          go_roundw
          case rel => exact ⟨j + 1, by omega, by go_num, MN, HB, SN⟩
          case measure => simp [intOf]; omega
    · obtain rfl : n = j := by omega
      have j1 : ¬ (n : Int) < (n : Int) := by omega
      go_wp2
      go_ret
      exact ⟨q, rfl, HM.out, Nat.le_of_eq HQ.out, HB.out⟩
/-- What NeedsOf answers. -/
def Rc.nn (c : Rc) : Nat := if c.row then c.n else 0
set_option maxRecDepth 100000 in
set_option maxHeartbeats 2000000 in
theorem mneedsof (b off cap : Nat) (c : Rc) (w : World) (R : Ir w b off c) (hX : c.wd) (hn : c.n ≤ 1048576) : Calls Tryd.prog 19 #[.slice (some ⟨b, off, none⟩) c.n cap] w fun e w' => ∃ u, e = .returned (.tuple #[u, .bool c.row]) ∧ ARows w' u c.nn c.nl ∧ Below w.heap.size w w' := by
  have h44 := mrow b off cap c w R hX hn
  have H45 : Hid (c.row = true → ∀ v, Below w.heap.size w v → Calls Tryd.prog 45 #[.slice (some ⟨b, off, none⟩) c.n cap] v fun e w' => ∃ q, e = .returned (.slice (some ⟨q, 0, none⟩) c.n c.n) ∧ Mq (q + 1) w' q c.n c.n c.nl ∧ v.heap.size ≤ q ∧ Below v.heap.size v w') := fun hr v k => mall b off cap c v (R.next k) hX hr
  have HN : Hid (c.nn = if c.row then c.n else 0) := rfl
  generalize hr : c.row = r at h44 H45 HN
  rw [HN.out]
  clear HN hr R hX hn
  generalize c.n = n at h44 H45
  cases r
  · simp only [Bool.false_eq_true, if_false]
    go_enter Tryd.func19, Tryd.ntmps19
    go_wp2_with (go_at_call 44; refine h44.mono ?_; rintro e w1 ⟨rfl, B1⟩)
    go_ret2
    exact ⟨_, rfl, ⟨none, 0, rfl, fun i hi => by omega⟩, B1⟩
  · simp only [if_true]
    have h45 := H45.out rfl
    clear H45
    go_enter Tryd.func19, Tryd.ntmps19
    go_wp2_with (first | (go_at_call 44; refine h44.mono ?_; rintro e w1 ⟨rfl, B1⟩) | (go_at_call 45; refine (h45 _ B1).mono ?_; rintro e w2 ⟨q, rfl, M2, L2, B2⟩))
    go_ret2
    exact ⟨_, rfl, M2.arows, B1.trans (B2.mono B1.size)⟩
end Go.Proofs.YtcgapochcahknaaDoor
