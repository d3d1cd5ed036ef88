/- The program's LayoutOf: it answers the spots, size and alignment; conditions: names at most 2^20 long, the row in memory. -/
import Derived.Test.YteakeaclpcgopaaLay
namespace Go.Proofs.Yteakeaclpcgopaa
open Go.ChangeShapes Go.WideShapes Go.ChangeAt Go.RowKit
set_option linter.unusedVariables false
set_option maxRecDepth 100000 in
set_option maxHeartbeats 4000000 in
theorem layout17 (n a : Nat) (K T : Nat → ByteArray) (J : Nat → Int) (r : Int) (w : World) (X : Row3 w a n K T J) (hn : n ≤ 1048576) (hK : ∀ i, i < n → (K i).size ≤ 1048576) : Calls Try.prog 17 #[.slice (some ⟨a, 0, none⟩) n n, .int .i64 r] w (SaysL w (if okL K T J r n = true then spotsL K T J r n else []) (if okL K T J r n = true then laySz T J r n else 0) (if okL K T J r n = true then layAl T J r n else 0) (okL K T J r n)) := by
  have HG0 : Hid (∀ w', Below w.heap.size w w' → Calls Try.prog 12 #[.slice (some ⟨a, 0, none⟩) n n] w' fun e w'' => e = .returned (.bool (goodFs K T J n)) ∧ Below w'.heap.size w' w'') := fun w' b => good12 n a n K T J w' (X.next b) hn hK
  have HRu : Hid (∀ w', Calls Try.prog 49 #[.int .i64 r] w' fun e w'' => e = .returned (.bool (decide (0 ≤ r ∧ r ≤ 2))) ∧ w'' = w') := fun w' => rule49 r w'
  have HZ : Hid (C3 (w.alloc (.cells #[.slice none 0 0, .int .i64 0, .int .i64 0] 34)) w.heap.size (.slice none 0 0) (.int .i64 0) (.int .i64 0)) := C3.new w _ _ _ 34
  unfold okL
  cases hg : goodFs K T J n
  case false =>
    rw [hg] at HG0
    go_enter Try.func17, Try.ntmps17
    go_wp2_with (go_at_call 12; refine (HG0.out _ alloc_b).mono ?_; rintro e w1 ⟨rfl, B1⟩; (obtain ⟨c0, c1, c2, f0, f1, f2, hi⟩ := HZ.out.next B1))
    obtain ⟨r0, r1, r2⟩ := put3 (.slice none 0 0) (.int .i64 0) (.int .i64 0) c0 c1 c2
    exact bodyPost_ret (v := .tuple #[.agg #[.slice none 0 0, .int .i64 0, .int .i64 0], .bool false]) (by simp [results, Try.results17, go_sem, r0, r1, r2]) rfl ⟨.slice none 0 0, rfl, Or.inl ⟨rfl, rfl⟩, fun g hg => by simp [Value.ownBlock] at hg, Below.setCell (Below.setCell (Below.setCell (alloc_b.trans (B1.mono (by simp))) (by simp) _) (by simp) _) (by simp) _⟩
  by_cases hr : 0 ≤ r ∧ r ≤ 2
  case neg =>
    rw [hg] at HG0
    rw [decide_eq_false hr] at HRu ⊢
    go_enter Try.func17, Try.ntmps17
    go_wp2_with (first | (go_at_call 12; refine (HG0.out _ alloc_b).mono ?_; rintro e w1 ⟨rfl, B1⟩; (obtain ⟨c0, c1, c2, f0, f1, f2, hi⟩ := HZ.out.next B1)) | (go_at_call 49; refine (HRu.out _).mono ?_; rintro e w' ⟨rfl, hw⟩; subst w'))
    obtain ⟨r0, r1, r2⟩ := put3 (.slice none 0 0) (.int .i64 0) (.int .i64 0) c0 c1 c2
    exact bodyPost_ret (v := .tuple #[.agg #[.slice none 0 0, .int .i64 0, .int .i64 0], .bool false]) (by simp [results, Try.results17, go_sem, r0, r1, r2]) rfl ⟨.slice none 0 0, rfl, Or.inl ⟨rfl, rfl⟩, fun g hg => by simp [Value.ownBlock] at hg, Below.setCell (Below.setCell (Below.setCell (alloc_b.trans (B1.mono (by simp))) (by simp) _) (by simp) _) (by simp) _⟩
  rw [hg] at HG0
  rw [decide_eq_true hr] at HRu ⊢
  have hgs := hg
  unfold goodFs at hgs
  simp only [Bool.and_eq_true, decide_eq_true_eq] at hgs
  obtain ⟨⟨n1, n12⟩, hall⟩ := hgs
  have n12' : (n : Int) ≤ 12 := by omega
  obtain ⟨i0', hi, hz0, hz1, hz2⟩ := info_parts info76
  simp only [Bool.and_self, if_true]
  go_enter Try.func17, Try.ntmps17
  go_wp2_with (first | (go_at_call 12; refine (HG0.out _ alloc_b).mono ?_; rintro e w1 ⟨rfl, B1⟩; (have Z1 := (HZ.out.next B1).alloc (.cells #[.slice none 0 0, .int .i64 0, .int .i64 0] 34))) | (go_at_call 49; refine (HRu.out _).mono ?_; rintro e w' ⟨rfl, hw⟩; subst w'))
  have B01 : Below w.heap.size w w1 := alloc_b.trans (B1.mono (by simp))
  have hlt : w.heap.size < w1.heap.size := by have := B1.size; simp at this; omega
  go_loopw [7, 23] (fun ev i wr => ∃ (k : Nat) (v : Value), k ≤ n ∧ i = .int .i64 k ∧ ev = .int .i64 (endF T J r k) ∧ C3 wr w1.heap.size v (.int .i64 0) (.int .i64 (alF T J r k)) ∧ wr.ownsRow (w1.heap.size + 1) 76 4 v k (cellsS (spotsL K T J r k)) ∧ C3 wr w.heap.size (.slice none 0 0) (.int .i64 0) (.int .i64 0) ∧ Below w.heap.size w wr) (fun _ i _ => n - (intOf i).toNat)
  case atStart => exact ⟨0, .slice none 0 0, by omega, rfl, rfl, C3.new w1 _ _ _ 34, World.ownsRow_nil _ _ _ _, Z1, B01.alloc B01.size _⟩
  case round =>
    obtain ⟨k, v, hk, rfl, rfl, Y6, hown, Y4, B⟩ := hrel
    obtain ⟨vs, vl, vc, rfl⟩ : ∃ x y z, v = .slice x y z := by
      rcases hown.2 with ⟨rfl, _⟩ | ⟨g, cap, cur, rfl, _⟩
      · exact ⟨_, _, _, rfl⟩
      · exact ⟨_, _, _, rfl⟩
    have eb := end_bounds K T J r hr n hall
    by_cases hkn : k < n
    · have i1 : (k : Int) < (n : Int) := by omega
      have i0 : (0 : Int) ≤ (k : Int) := by omega
      have XX := X.next B
      have c0 := XX.k k hkn
      have c1 := XX.t k hkn
      have c2 := XX.j k hkn
      obtain ⟨gn, gk, gj0, gj1, gi⟩ := allG_at K T J n hall k hkn
      have fb := f_bounds (kOf (T k)) (J k) r gk hr gj0 gj1
      have e0 := eb k hk (by omega)
      have ub := up_bounds (endF T J r k) (fal (kOf (T k)) (J k) r) (by omega) (by omega) (by omega) (by omega)
      have HF : Hid (∀ w, Calls Try.prog 52 #[.agg #[.string (K k), .string (T k), .int .i64 (J k)], .int .i64 r] w fun e w' => e = .returned (.agg #[.int .i64 (fsz (kOf (T k)) (J k) r), .int .i64 (fal (kOf (T k)) (J k) r), .int .i64 (fstr (kOf (T k)) (J k) r)]) ∧ Below w.heap.size w w') := fun w => field52 (K k) (T k) (J k) r w gk hr gj0 gj1
      have HU : Hid (∀ w, Calls Try.prog 54 #[.int .i64 (endF T J r k), .int .i64 (fal (kOf (T k)) (J k) r)] w fun e w' => e = .returned (.int .i64 (up (endF T J r k) (fal (kOf (T k)) (J k) r))) ∧ w' = w) := fun w => up54 _ _ w (by omega) (by omega) (by omega) (by omega)
      have HE : Hid (endF T J r (k + 1) = up (endF T J r k) (fal (kOf (T k)) (J k) r) + fsz (kOf (T k)) (J k) r) := rfl
      have HL : Hid (alF T J r (k + 1) = max (alF T J r k) (fal (kOf (T k)) (J k) r)) := rfl
      have HS := spotsL_succ K T J r k
      have HCl : Hid (∀ w, Calls Try.prog 53 #[.string (K k)] w fun e w' => e = .returned (.string (K k)) ∧ Below w.heap.size w w') := fun w => clone53 (K k) w (hK k hkn)
      unfold offF at HS
      generalize fsz (kOf (T k)) (J k) r = Z at *
      generalize fal (kOf (T k)) (J k) r = L at *
      generalize fstr (kOf (T k)) (J k) r = S at *
      generalize up (endF T J r k) L = U at *
      have HSP : Hid (cellsS (spotsL K T J r (k + 1)) = cellsS (spotsL K T J r k) ++ [.string (K k), .int .i64 U, .int .i64 Z, .int .i64 S]) := HS
      generalize endF T J r k = E at *
      generalize alF T J r k = A at *
      have k12 : k ≤ 12 := by omega
      have eE : E ≤ 100000 := by omega
      clear HS eb XX gn gk gj0 gj1 gi
      have Y9 := C3.new wr (.string (K k)) (.string (T k)) (.int .i64 (J k)) 61
      go_wp2_with (go_at_call 52; refine (HF.out _).mono ?_; rintro e w2 ⟨rfl, B2⟩)
      have Bwq : Below wr.heap.size wr (w2.alloc (.cells #[.int .i64 Z, .int .i64 L, .int .i64 S] 73)) := (alloc_b.trans (B2.mono (by simp))).alloc (by have := B2.size; simp at this; omega) _
      have Y9q := (Y9.next B2).alloc (.cells #[.int .i64 Z, .int .i64 L, .int .i64 S] 73)
      have Y10q := C3.new w2 (.int .i64 Z) (.int .i64 L) (.int .i64 S) 73
      have h10 : wr.heap.size < w2.heap.size := by have := B2.size; simp at this; omega
      obtain ⟨o10, ho10⟩ : ∃ x, w2.heap.size = x := ⟨_, rfl⟩
      obtain ⟨wq, hwq⟩ : ∃ x, w2.alloc (.cells #[.int .i64 Z, .int .i64 L, .int .i64 S] 73) = x := ⟨_, rfl⟩
      obtain ⟨o9, ho9⟩ : ∃ x, wr.heap.size = x := ⟨_, rfl⟩
      rw [ho10] at Y10q h10 ⊢
      rw [ho9] at Y9q h10 ⊢
      rw [hwq] at Bwq Y9q Y10q ⊢
      have q0 := Y9q.c0
      have q1 := Y10q.c0
      have q2 := Y10q.c1
      have q3 := Y10q.c2
      have l9 := Y9q.hi
      have l10 := Y10q.hi
      go_region_held3 (fun v => v.cell? ⟨o9, 0, none⟩ = some (.string (K k)) ∧ v.cell? ⟨o10, 0, none⟩ = some (.int .i64 Z) ∧ v.cell? ⟨o10, 1, none⟩ = some (.int .i64 L) ∧ v.cell? ⟨o10, 2, none⟩ = some (.int .i64 S)) (first | with_reducible exact ⟨s0, s1, s2, s3⟩ | with_reducible exact ⟨q0, q1, q2, q3⟩ | (with_reducible refine ⟨set4 ?_ s0, set4 ?_ s1, set4 ?_ s2, set4 ?_ s3⟩ <;> omega) | (with_reducible refine ⟨set4 ?_ (cell_al s0), set4 ?_ (cell_al s1), set4 ?_ (cell_al s2), set4 ?_ (cell_al s3)⟩ <;> omega) | (go_keep; done)) (first | (go_at_call 53; (have hh := ‹World.cell? _ ⟨o9, 0, none⟩ = some (.string (K k)) ∧ _›); refine ((Hid.out HCl) _).mono ?_; rintro e w3 ⟨rfl, B3⟩; (have s0 := (B3.cell (p := ⟨o9, 0, none⟩) (World.block_lt_of_cell? _ ⟨o9, 0, none⟩ hh.1)).trans hh.1); (have s1 := (B3.cell (p := ⟨o10, 0, none⟩) (World.block_lt_of_cell? _ ⟨o10, 0, none⟩ hh.2.1)).trans hh.2.1); (have s2 := (B3.cell (p := ⟨o10, 1, none⟩) (World.block_lt_of_cell? _ ⟨o10, 1, none⟩ hh.2.2.1)).trans hh.2.2.1); (have l3 := B3.size); (have s3 := (B3.cell (p := ⟨o10, 2, none⟩) (World.block_lt_of_cell? _ ⟨o10, 2, none⟩ hh.2.2.2)).trans hh.2.2.2); (try (have G : C4 w3 wq.heap.size (.string ⟨#[]⟩) (.int .i64 0) (.int .i64 0) (.int .i64 0) := (C4.new wq.drew _ _ _ _ 76).next B3; have GG := G; obtain ⟨g0, g1, g2, g3, h0, h1, h2, h3, _⟩ := G))) | (go_at_call 54; refine ((Hid.out HU) _).mono ?_; rintro e w' ⟨rfl, hw⟩; subst w'))
      all_goals
        clear q0 q1 q2 q3 s0 s1 s2 s3
      rotate_left 2
      · have BZ : Below wq.heap.size wq ((((w3.setCell ⟨wq.heap.size, 0, none⟩ (.string (K k))).setCell ⟨wq.heap.size, 1, none⟩ (.int .i64 U)).setCell ⟨wq.heap.size, 2, none⟩ (.int .i64 Z)).setCell ⟨wq.heap.size, 3, none⟩ (.int .i64 S)) := by
          refine Below.setCell (Below.setCell (Below.setCell (Below.setCell ?_ (by simp) _) (by simp) _) (by simp) _) (by simp) _
          have b := (alloc_b (w := wq.drew)).trans (B3.mono (by simp))
          exact ⟨b.os, b.tape, b.output, b.size, b.block⟩
        have Y11 := GG.put (.string (K k)) (.int .i64 U) (.int .i64 Z) (.int .i64 S)
        have lo : wq.heap.size ≤ wq.heap.size := Nat.le_refl _
        clear GG g0 g1 g2 g3 h0 h1 h2 h3
        obtain ⟨o11, ho11⟩ : ∃ x, wq.heap.size = x := ⟨_, rfl⟩
        obtain ⟨wz, hwz⟩ : ∃ x, ((((w3.setCell ⟨wq.heap.size, 0, none⟩ (.string (K k))).setCell ⟨wq.heap.size, 1, none⟩ (.int .i64 U)).setCell ⟨wq.heap.size, 2, none⟩ (.int .i64 Z)).setCell ⟨wq.heap.size, 3, none⟩ (.int .i64 S)) = x := ⟨_, rfl⟩
        rw [hwz] at BZ Y11 ⊢
        rw [show Value.pointer (some ⟨wq.heap.size, 0, none⟩) = Value.pointer (some ⟨o11, 0, none⟩) by rw [ho11]]
        have Y11' : C4 wz o11 (.string (K k)) (.int .i64 U) (.int .i64 Z) (.int .i64 S) := by rw [← ho11]; exact Y11
        clear Y11 hwz ho11
        have Y10z := Y10q.next BZ
        have Y6z := (Y6.next Bwq).next BZ
        have Y4z := (Y4.next Bwq).next BZ
        have ownz := owns_next (owns_next hown Bwq) BZ
        have Bz : Below w.heap.size w wz := (B.trans (Bwq.mono B.size)).trans (BZ.mono (by have := B.size; have := Bwq.size; omega))
        have lz : w1.heap.size + 1 ≤ wz.heap.size := Y6z.hi
        obtain ⟨a0, a1, a2, a3, _, _, _, _, hi11⟩ := Y11'
        have b0 := Y6z.c0
        go_wp2_with (at_builtin; refine wpList_append_own _ rfl _ _ 32 rfl (w1.heap.size + 1) 76 i0' (.agg #[.string ⟨#[]⟩, .int .i64 0, .int .i64 0, .int .i64 0]) 4 40 Try.underlying32 hi hz0 hz1 hz2 rfl (by decide) _ _ _ rfl (ownz.alloc _) ⟨wz.heap.size, 0, none⟩ 1 1 [.string (K k), .int .i64 U, .int .i64 Z, .int .i64 S] rfl rfl ?c1 ?c2 ?c3 ?c4 ?c5 ?_)
        case c1 =>
          intro j u hj
          match j, hj with
          | 0, hj => simp at hj; subst hj; simp [Addr.add]
          | 1, hj => simp at hj; subst hj; simp [Addr.add]
          | 2, hj => simp at hj; subst hj; simp [Addr.add]
          | 3, hj => simp at hj; subst hj; simp [Addr.add]
        case c2 => intro u hu; simp at hu; rcases hu with rfl | rfl | rfl | rfl <;> rfl
        case c3 => unfold maxLen; omega
        case c4 => omega
        case c5 => simp; omega
        intro v' w4 hown' hgrow hnil
        obtain ⟨g, cap, rfl, hg1, hg2⟩ := World.ownsRow.form hown' (by omega)
        have far : ∀ q, (Value.slice vs vl vc).ownBlock = some q → w1.heap.size + 1 ≤ q ∧ q < o9 := fun q hq => by have := hown.lt q hq; rw [ho9] at this; exact this
        have R1 : w4.ownsRow (w1.heap.size + 1) 76 4 (.slice (some ⟨g, 0, none⟩) (k + 1) cap) (k + 1) (cellsS (spotsL K T J r (k + 1))) := by rw [HSP.out]; exact hown'
        have ne6 : some w1.heap.size ≠ (Value.slice vs vl vc).ownBlock := fun e => by have := far _ e.symm; omega
        have ne4 : some w.heap.size ≠ (Value.slice vs vl vc).ownBlock := fun e => by have := far _ e.symm; omega
        have ne10 : some o10 ≠ (Value.slice vs vl vc).ownBlock := fun e => by have := far _ e.symm; omega
        have l10' : w1.heap.size < o10 := by have := Y6.hi; omega
        have V6 := ((Y6z.alloc (.cells #[.string (K k), .int .i64 U, .int .i64 Z, .int .i64 S] 76)).grown hgrow ne6)
        have V6s := V6.set0 (.slice (some ⟨g, 0, none⟩) (k + 1) cap)
        have V10 := ((Y10z.alloc (.cells #[.string (K k), .int .i64 U, .int .i64 Z, .int .i64 S] 76)).grown hgrow ne10).but (p := w1.heap.size) 0 (.slice (some ⟨g, 0, none⟩) (k + 1) cap) (by omega)
        have V4 := (((Y4z.alloc (.cells #[.string (K k), .int .i64 U, .int .i64 Z, .int .i64 S] 76)).grown hgrow ne4).but (p := w1.heap.size) 0 (.slice (some ⟨g, 0, none⟩) (k + 1) cap) (by omega)).but (p := w1.heap.size) 2 (.int .i64 (max A L)) (by omega)
        have R2 := owns_but (owns_but R1 w1.heap.size 0 (.slice (some ⟨g, 0, none⟩) (k + 1) cap) (by omega)) w1.heap.size 2 (.int .i64 (max A L)) (by omega)
        have Bw4 : Below w.heap.size w w4 := (Bz.alloc Bz.size _).grown hgrow (by have := Bz.size; simp; omega) (fun q hq => by have := far q hq; omega)
        have HV6 : Hid (C3 _ _ _ _ _) := V6s.set2 (.int .i64 (max A L))
        have HV4 : Hid (C3 _ _ _ _ _) := V4
        have HR2 : Hid (_) := R2
        obtain ⟨x0, x1, x2, y0, y1, y2, _⟩ := V6
        obtain ⟨d0, d1, d2, e0, e1, e2, _⟩ := V6s
        have k1 := V10.c1
        have HB4 : Hid (Below w.heap.size w w4) := Bw4
        clear hown' hgrow hown hnil V4 R1 R2 V10 far Bw4 Y6z Y4z Y10z ownz b0 a0 a1 a2 a3
        go_wp2
        exact ⟨⟨k + 1, _, by omega, by go_num, by rw [HE.out], by rw [HL.out]; exact HV6.out, HR2.out, HV4.out, (HB4.out.setCell (by show w.heap.size ≤ w1.heap.size; omega) _).setCell (by show w.heap.size ≤ w1.heap.size; omega) _⟩, by simp [intOf]; omega⟩
      all_goals
        have BZ : Below wq.heap.size wq (w3.alloc (.cells #[.string (K k), .int .i64 U, .int .i64 Z, .int .i64 S] 76)) := by
          have b : Below wq.heap.size wq w3 := ⟨B3.os, B3.tape, B3.output, B3.size, B3.block⟩
          exact b.alloc b.size _
        have Y11 := C4.new w3 (.string (K k)) (.int .i64 U) (.int .i64 Z) (.int .i64 S) 76
        obtain ⟨o11, ho11⟩ : ∃ x, w3.heap.size = x := ⟨_, rfl⟩
        obtain ⟨wz, hwz⟩ : ∃ x, w3.alloc (.cells #[.string (K k), .int .i64 U, .int .i64 Z, .int .i64 S] 76) = x := ⟨_, rfl⟩
        rw [hwz] at BZ Y11 ⊢
        rw [ho11] at Y11 ⊢
        have Y11' := Y11
        clear Y11 hwz ho11
        have Y10z := Y10q.next BZ
        have Y6z := (Y6.next Bwq).next BZ
        have Y4z := (Y4.next Bwq).next BZ
        have ownz := owns_next (owns_next hown Bwq) BZ
        have Bz : Below w.heap.size w wz := (B.trans (Bwq.mono B.size)).trans (BZ.mono (by have := B.size; have := Bwq.size; omega))
        have lz : w1.heap.size + 1 ≤ wz.heap.size := Y6z.hi
        obtain ⟨a0, a1, a2, a3, _, _, _, _, hi11⟩ := Y11'
        have b0 := Y6z.c0
        go_wp2_with (at_builtin; refine wpList_append_own _ rfl _ _ 32 rfl (w1.heap.size + 1) 76 i0' (.agg #[.string ⟨#[]⟩, .int .i64 0, .int .i64 0, .int .i64 0]) 4 40 Try.underlying32 hi hz0 hz1 hz2 rfl (by decide) _ _ _ rfl (ownz.alloc _) ⟨wz.heap.size, 0, none⟩ 1 1 [.string (K k), .int .i64 U, .int .i64 Z, .int .i64 S] rfl rfl ?c1 ?c2 ?c3 ?c4 ?c5 ?_)
        case c1 =>
          intro j u hj
          match j, hj with
          | 0, hj => simp at hj; subst hj; simp [Addr.add]
          | 1, hj => simp at hj; subst hj; simp [Addr.add]
          | 2, hj => simp at hj; subst hj; simp [Addr.add]
          | 3, hj => simp at hj; subst hj; simp [Addr.add]
        case c2 => intro u hu; simp at hu; rcases hu with rfl | rfl | rfl | rfl <;> rfl
        case c3 => unfold maxLen; omega
        case c4 => omega
        case c5 => simp; omega
        intro v' w4 hown' hgrow hnil
        obtain ⟨g, cap, rfl, hg1, hg2⟩ := World.ownsRow.form hown' (by omega)
        have far : ∀ q, (Value.slice vs vl vc).ownBlock = some q → w1.heap.size + 1 ≤ q ∧ q < o9 := fun q hq => by have := hown.lt q hq; rw [ho9] at this; exact this
        have R1 : w4.ownsRow (w1.heap.size + 1) 76 4 (.slice (some ⟨g, 0, none⟩) (k + 1) cap) (k + 1) (cellsS (spotsL K T J r (k + 1))) := by rw [HSP.out]; exact hown'
        have ne6 : some w1.heap.size ≠ (Value.slice vs vl vc).ownBlock := fun e => by have := far _ e.symm; omega
        have ne4 : some w.heap.size ≠ (Value.slice vs vl vc).ownBlock := fun e => by have := far _ e.symm; omega
        have ne10 : some o10 ≠ (Value.slice vs vl vc).ownBlock := fun e => by have := far _ e.symm; omega
        have l10' : w1.heap.size < o10 := by have := Y6.hi; omega
        have V6 := ((Y6z.alloc (.cells #[.string (K k), .int .i64 U, .int .i64 Z, .int .i64 S] 76)).grown hgrow ne6)
        have V6s := V6.set0 (.slice (some ⟨g, 0, none⟩) (k + 1) cap)
        have V10 := ((Y10z.alloc (.cells #[.string (K k), .int .i64 U, .int .i64 Z, .int .i64 S] 76)).grown hgrow ne10).but (p := w1.heap.size) 0 (.slice (some ⟨g, 0, none⟩) (k + 1) cap) (by omega)
        have V4 := (((Y4z.alloc (.cells #[.string (K k), .int .i64 U, .int .i64 Z, .int .i64 S] 76)).grown hgrow ne4).but (p := w1.heap.size) 0 (.slice (some ⟨g, 0, none⟩) (k + 1) cap) (by omega)).but (p := w1.heap.size) 2 (.int .i64 (max A L)) (by omega)
        have R2 := owns_but (owns_but R1 w1.heap.size 0 (.slice (some ⟨g, 0, none⟩) (k + 1) cap) (by omega)) w1.heap.size 2 (.int .i64 (max A L)) (by omega)
        have Bw4 : Below w.heap.size w w4 := (Bz.alloc Bz.size _).grown hgrow (by have := Bz.size; simp; omega) (fun q hq => by have := far q hq; omega)
        have HV6 : Hid (C3 _ _ _ _ _) := V6s.set2 (.int .i64 (max A L))
        have HV4 : Hid (C3 _ _ _ _ _) := V4
        have HR2 : Hid (_) := R2
        obtain ⟨x0, x1, x2, y0, y1, y2, _⟩ := V6
        obtain ⟨d0, d1, d2, e0, e1, e2, _⟩ := V6s
        have k1 := V10.c1
        have HB4 : Hid (Below w.heap.size w w4) := Bw4
        clear hown' hgrow hown hnil V4 R1 R2 V10 far Bw4 Y6z Y4z Y10z ownz b0 a0 a1 a2 a3
        go_wp2
        exact ⟨⟨k + 1, _, by omega, by go_num, by rw [HE.out], by rw [HL.out]; exact HV6.out, HR2.out, HV4.out, (HB4.out.setCell (by show w.heap.size ≤ w1.heap.size; omega) _).setCell (by show w.heap.size ≤ w1.heap.size; omega) _⟩, by simp [intOf]; omega⟩
    · have hkk : k = n := by omega
      subst hkk
      have e0 := eb k (Nat.le_refl _) n12
      have mb := many_bounds (alF T J r k) r (by have := e0.2.2.1 (by omega); omega) (by omega)
      have ub := up_bounds (endF T J r k) (layAl T J r k) (by omega) (by omega) (by unfold layAl; have := e0.2.2.1 (by omega); omega) (by unfold layAl; omega)
      have HM : Hid (∀ w, Calls Try.prog 55 #[.int .i64 (alF T J r k), .int .i64 r] w fun e w' => e = .returned (.int .i64 (layAl T J r k)) ∧ w' = w) := fun w => many55 _ r w (by have := e0.2.2.1 (by omega); omega) (by omega)
      have HU : Hid (∀ w, Calls Try.prog 54 #[.int .i64 (endF T J r k), .int .i64 (layAl T J r k)] w fun e w' => e = .returned (.int .i64 (laySz T J r k)) ∧ w' = w) := fun w => up54 _ _ w (by omega) (by omega) (by unfold layAl; have := e0.2.2.1 (by omega); omega) (by unfold layAl; omega)
      clear ub mb
      generalize layAl T J r k = AL at *
      generalize laySz T J r k = SZ at *
      have hown' : wr.ownsRow (w1.heap.size + 1) 76 4 (.slice vs vl vc) (spotsL K T J r k).length (cellsS (spotsL K T J r k)) := by rw [spotsL_len]; exact hown
      have lt1 := Y6.hi
      have Y6a := Y6.set2 (.int .i64 AL)
      have Y6b := Y6a.set1 (.int .i64 SZ)
      have Y4b := (Y4.but (p := w1.heap.size) 2 (.int .i64 AL) (by omega)).but (p := w1.heap.size) 1 (.int .i64 SZ) (by omega)
      have HO : Hid (_) := owns_but (owns_but (owns_but (owns_but (owns_but hown' w1.heap.size 2 (.int .i64 AL) (by omega)) w1.heap.size 1 (.int .i64 SZ) (by omega)) w.heap.size 0 (.slice vs vl vc) (by omega)) w.heap.size 1 (.int .i64 SZ) (by omega)) w.heap.size 2 (.int .i64 AL) (by omega)
      obtain ⟨c0, c1, c2, f0, f1, f2, _⟩ := Y6
      obtain ⟨d0, d1, d2, g0, g1, g2, _⟩ := Y6a
      obtain ⟨k0, k1, k2, h0, h1, h2, _⟩ := Y6b
      obtain ⟨x0, x1, x2, y0, y1, y2, _⟩ := Y4b
      obtain ⟨r0, r1, r2⟩ := put3 (.slice vs vl vc) (.int .i64 SZ) (.int .i64 AL) x0 x1 x2
      clear Y4 hown eb
      go_wp2_with (first | (go_at_call 55; refine (HM.out _).mono ?_; rintro e w' ⟨rfl, hw⟩; subst w') | (go_at_call 54; refine (HU.out _).mono ?_; rintro e w' ⟨rfl, hw⟩; subst w'))
      exact bodyPost_ret (v := .tuple #[.agg #[.slice vs vl vc, .int .i64 SZ, .int .i64 AL], .bool true]) (by simp [results, Try.results17, go_sem, r0, r1, r2]) rfl ⟨_, rfl, rowvS_of HO.out, fun g hg => by have := (hown'.lt g hg).1; omega, Below.setCell (Below.setCell (Below.setCell (Below.setCell (Below.setCell B (by show w.heap.size ≤ w1.heap.size; omega) _) (by show w.heap.size ≤ w1.heap.size; omega) _) (by simp) _) (by simp) _) (by simp) _⟩
end Go.Proofs.Yteakeaclpcgopaa
