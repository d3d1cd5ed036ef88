/- The model's LayoutOf: it answers what the program's does; conditions: names at most 2^20 long, the row in memory. -/
import Derived.Test.YteakeaclpcgopaaLay
namespace Go.Proofs.Yteakeaclpcgopaa
open Go.ChangeShapes Go.WideShapes Go.ChangeAt Go.RowKit
set_option linter.unusedVariables false
/-- The model's greatest alignment begins with 1. -/
def alM (T : Nat → ByteArray) (J : Nat → Int) (r : Int) : Nat → Int
  | 0 => 1
  | n + 1 => max (alM T J r n) (fal (kOf (T n)) (J n) r)
theorem alM_eq (K T : Nat → ByteArray) (J : Nat → Int) (r : Int) (hr : 0 ≤ r ∧ r ≤ 2) (n : Nat) (h : allG K T J n = true) : ∀ i, i < n → alM T J r (i + 1) = alF T J r (i + 1)
  | 0, hi => by
    have g := allG_at K T J n h 0 hi
    have f := f_bounds (kOf (T 0)) (J 0) r g.2.1 hr g.2.2.1 g.2.2.2.1
    simp only [alM, alF]
    omega
  | i + 1, hi => by
    rw [alM, alM_eq K T J r hr n h i (by omega)]
    rfl
theorem quo_st (k : Nat) (r : Int) (hr : 0 ≤ r ∧ r ≤ 2) (h6 : 6 ≤ k) (h8 : k ≤ 8) : tsz k r / vecN k = tst k r ∧ 2 ≤ vecN k ∧ vecN k ≤ 4 := by
  have hr3 : r = 0 ∨ r = 1 ∨ r = 2 := by omega
  rcases (show k = 6 ∨ k = 7 ∨ k = 8 by omega) with rfl | rfl | rfl <;> rcases hr3 with rfl | rfl | rfl <;> decide
theorem tst_zero (k : Nat) (r : Int) (h8 : k ≤ 8) (h : ¬ (6 ≤ k ∧ k ≤ 8)) : tst k r = 0 := by
  unfold tst
  rcases (show k = 0 ∨ k = 1 ∨ k = 2 ∨ k = 3 ∨ k = 4 ∨ k = 5 by omega) with rfl | rfl | rfl | rfl | rfl | rfl <;> rfl
set_option maxRecDepth 100000 in
set_option maxHeartbeats 4000000 in
theorem layout16 (n a : Nat) (K T : Nat → ByteArray) (J : Nat → Int) (r : Int) (w : World) (X : Row3 w a n K T J) (hn : n ≤ 1048576) (hK : ∀ i, i < n → (K i).size ≤ 1048576) : Calls Try.prog 16 #[.slice (some ⟨a, 0, none⟩) n n, .int .i64 r] w (SaysL w (if okL K T J r n = true then spotsL K T J r n else []) (if okL K T J r n = true then laySz T J r n else 0) (if okL K T J r n = true then layAl T J r n else 0) (okL K T J r n)) := by
  have HG0 : Hid (∀ w', Below w.heap.size w w' → Calls Try.prog 10 #[.slice (some ⟨a, 0, none⟩) n n] w' fun e w'' => e = .returned (.bool (goodFs K T J n)) ∧ Below w'.heap.size w' w'') := fun w' b => good10 n a K T J w' (X.next b) hn hK
  have HRu : Hid (∀ w', Calls Try.prog 43 #[.int .i64 r] w' fun e w'' => e = .returned (.bool (decide (0 ≤ r ∧ r ≤ 2))) ∧ w'' = w') := fun w' => rule43 r w'
  have HZ : Hid (C3 (w.alloc (.cells #[.slice none 0 0, .int .i64 0, .int .i64 0] 34)) w.heap.size (.slice none 0 0) (.int .i64 0) (.int .i64 0)) := C3.new w _ _ _ 34
  unfold okL
  cases hg : goodFs K T J n
  case false =>
    rw [hg] at HG0
    go_enter Try.func16, Try.ntmps16
    go_wp2_with (go_at_call 10; refine (HG0.out _ alloc_b).mono ?_; rintro e w1 ⟨rfl, B1⟩; (obtain ⟨c0, c1, c2, f0, f1, f2, hi⟩ := HZ.out.next B1))
    obtain ⟨r0, r1, r2⟩ := put3 (.slice none 0 0) (.int .i64 0) (.int .i64 0) c0 c1 c2
    exact bodyPost_ret (v := .tuple #[.agg #[.slice none 0 0, .int .i64 0, .int .i64 0], .bool false]) (by simp [results, Try.results16, go_sem, r0, r1, r2]) rfl ⟨.slice none 0 0, rfl, Or.inl ⟨rfl, rfl⟩, fun g hg => by simp [Value.ownBlock] at hg, Below.setCell (Below.setCell (Below.setCell (alloc_b.trans (B1.mono (by simp))) (by simp) _) (by simp) _) (by simp) _⟩
  by_cases hr : 0 ≤ r ∧ r ≤ 2
  case neg =>
    rw [hg] at HG0
    rw [decide_eq_false hr] at HRu ⊢
    go_enter Try.func16, Try.ntmps16
    go_wp2_with (first | (go_at_call 10; refine (HG0.out _ alloc_b).mono ?_; rintro e w1 ⟨rfl, B1⟩; (obtain ⟨c0, c1, c2, f0, f1, f2, hi⟩ := HZ.out.next B1)) | (go_at_call 43; refine (HRu.out _).mono ?_; rintro e w' ⟨rfl, hw⟩; subst w'))
    obtain ⟨r0, r1, r2⟩ := put3 (.slice none 0 0) (.int .i64 0) (.int .i64 0) c0 c1 c2
    exact bodyPost_ret (v := .tuple #[.agg #[.slice none 0 0, .int .i64 0, .int .i64 0], .bool false]) (by simp [results, Try.results16, go_sem, r0, r1, r2]) rfl ⟨.slice none 0 0, rfl, Or.inl ⟨rfl, rfl⟩, fun g hg => by simp [Value.ownBlock] at hg, Below.setCell (Below.setCell (Below.setCell (alloc_b.trans (B1.mono (by simp))) (by simp) _) (by simp) _) (by simp) _⟩
  rw [hg] at HG0
  rw [decide_eq_true hr] at HRu ⊢
  have hgs := hg
  unfold goodFs at hgs
  simp only [Bool.and_eq_true, decide_eq_true_eq] at hgs
  obtain ⟨⟨n1, n12⟩, hall⟩ := hgs
  have n12' : (n : Int) ≤ 12 := by omega
  obtain ⟨i0', hi, hz0, hz1, hz2⟩ := info_parts info76
  simp only [Bool.and_self, if_true]
  go_enter Try.func16, Try.ntmps16
  go_wp2_with (first | (go_at_call 10; refine (HG0.out _ alloc_b).mono ?_; rintro e w1 ⟨rfl, B1⟩; (have Z1 := (HZ.out.next B1).alloc (.cells #[.slice none 0 0, .int .i64 0, .int .i64 1] 34))) | (go_at_call 43; refine (HRu.out _).mono ?_; rintro e w' ⟨rfl, hw⟩; subst w'))
  have B01 : Below w.heap.size w w1 := alloc_b.trans (B1.mono (by simp))
  have hlt : w.heap.size < w1.heap.size := by have := B1.size; simp at this; omega
  go_loopw [7, 27] (fun ev i wr => ∃ (k : Nat) (v : Value), k ≤ n ∧ i = .int .i64 k ∧ ev = .int .i64 (endF T J r k) ∧ C3 wr w1.heap.size v (.int .i64 0) (.int .i64 (alM T J r k)) ∧ wr.ownsRow (w1.heap.size + 1) 76 4 v k (cellsS (spotsL K T J r k)) ∧ C3 wr w.heap.size (.slice none 0 0) (.int .i64 0) (.int .i64 0) ∧ Below w.heap.size w wr) (fun _ i _ => n - (intOf i).toNat)
  case atStart => exact ⟨0, .slice none 0 0, by omega, rfl, rfl, C3.new w1 _ _ _ 34, World.ownsRow_nil _ _ _ _, Z1, B01.alloc B01.size _⟩
  case round =>
    obtain ⟨k, v, hk, rfl, rfl, Y6, hown, Y4, B⟩ := hrel
    obtain ⟨vs, vl, vc, rfl⟩ : ∃ x y z, v = .slice x y z := by
      rcases hown.2 with ⟨rfl, _⟩ | ⟨g, cap, cur, rfl, _⟩
      · exact ⟨_, _, _, rfl⟩
      · exact ⟨_, _, _, rfl⟩
    have eb := end_bounds K T J r hr n hall
    by_cases hkn : k < n
    · have i1 : (k : Int) < (n : Int) := by omega
      have i0 : (0 : Int) ≤ (k : Int) := by omega
      have XX := X.next B
      have c0 := XX.k k hkn
      have c1 := XX.t k hkn
      have c2 := XX.j k hkn
      have lz6 := Y6.hi
      obtain ⟨gn, gk, gj0, gj1, gi⟩ := allG_at K T J n hall k hkn
      have fb := f_bounds (kOf (T k)) (J k) r gk hr gj0 gj1
      have tb := tal_bounds (kOf (T k)) r gk hr
      have e0 := eb k hk (by omega)
      have ub := up_bounds (endF T J r k) (fal (kOf (T k)) (J k) r) (by omega) (by omega) (by omega) (by omega)
      have HT : Hid (∀ w, Calls Try.prog 14 #[.string (T k), .int .i64 r] w fun e w' => e = .returned (.tuple #[.int .i64 (tsz (kOf (T k)) r), .int .i64 (tal (kOf (T k)) r)]) ∧ w' = w) := fun w => by
        have h := size14 (T k) r w
        unfold tszR talR at h
        rw [if_pos ⟨hr, gk⟩, if_pos ⟨hr, gk⟩] at h
        exact h
      have HMx : Hid (∀ w, Calls Try.prog 46 #[.string (T k)] w fun e w' => e = .returned (.bool (decide (6 ≤ kOf (T k) ∧ kOf (T k) ≤ 8))) ∧ w' = w) := fun w => matrix46 (T k) w
      have HV : Hid (∀ w, Calls Try.prog 44 #[.string (T k)] w fun e w' => e = .returned (.int .i64 (vecN (kOf (T k)))) ∧ w' = w) := fun w => vec44 (T k) w
      have HAr : Hid (∀ w, Calls Try.prog 47 #[.int .i64 (tsz (kOf (T k)) r), .int .i64 (tal (kOf (T k)) r), .int .i64 r] w fun e w' => e = .returned (.tuple #[.int .i64 (many (tal (kOf (T k)) r) r), .int .i64 (up (tsz (kOf (T k)) r) (many (tal (kOf (T k)) r) r))]) ∧ w' = w) := fun w => array47 _ _ r w (by omega) (by omega) (by omega) (by omega)
      have HU : Hid (∀ w, Calls Try.prog 51 #[.int .i64 (endF T J r k), .int .i64 (fal (kOf (T k)) (J k) r)] w fun e w' => e = .returned (.int .i64 (up (endF T J r k) (fal (kOf (T k)) (J k) r))) ∧ w' = w) := fun w => up51 _ _ w (by omega) (by omega) (by omega) (by omega)
      have HE : Hid (endF T J r (k + 1) = up (endF T J r k) (fal (kOf (T k)) (J k) r) + fsz (kOf (T k)) (J k) r) := rfl
      have HL : Hid (alM T J r (k + 1) = max (alM T J r k) (fal (kOf (T k)) (J k) r)) := rfl
      have HS := spotsL_succ K T J r k
      have qs := quo_st (kOf (T k)) r hr
      have zs := tst_zero (kOf (T k)) r gk
      have q1 : 1 ≤ alM T J r k ∧ alM T J r k ≤ 32 := by
        cases k with
        | zero => simp only [alM]; omega
        | succ q =>
          have := eb (q + 1) (by omega) (by omega)
          rw [alM_eq K T J r hr n hall q (by omega)]
          exact ⟨this.2.2.1 (by omega), this.2.2.2.2⟩
      have fz : fsz (kOf (T k)) (J k) r = if J k = 0 then tsz (kOf (T k)) r else J k * up (tsz (kOf (T k)) r) (many (tal (kOf (T k)) r) r) := rfl
      have fl : fal (kOf (T k)) (J k) r = if J k = 0 then tal (kOf (T k)) r else many (tal (kOf (T k)) r) r := rfl
      have fs : fstr (kOf (T k)) (J k) r = if J k = 0 then tst (kOf (T k)) r else up (tsz (kOf (T k)) r) (many (tal (kOf (T k)) r) r) := rfl
      unfold offF at HS
      generalize fsz (kOf (T k)) (J k) r = Z at *
      generalize fal (kOf (T k)) (J k) r = L at *
      generalize fstr (kOf (T k)) (J k) r = S at *
      generalize up (endF T J r k) L = U at *
      have HSP : Hid (cellsS (spotsL K T J r (k + 1)) = cellsS (spotsL K T J r k) ++ [.string (K k), .int .i64 U, .int .i64 Z, .int .i64 S]) := HS
      generalize endF T J r k = E at *
      generalize alM T J r k = A at *
      have k12 : k ≤ 12 := by omega
      have eE : E ≤ 100000 := by omega
      have eE0 : 0 ≤ E := by omega
      have uU0 : 0 ≤ U := by omega
      have uU1 : U ≤ 101000 := by omega
      generalize kOf (T k) = kt at *
      generalize up (tsz kt r) (many (tal kt r) r) = UU at *
      generalize many (tal kt r) r = MM at *
      generalize tsz kt r = tz at *
      generalize tal kt r = ta at *
      generalize tst kt r = ts at *
      generalize vecN kt = NV at *
      clear HS eb XX gn gi e0
      by_cases hm : 6 ≤ kt ∧ kt ≤ 8
      case pos =>
        obtain ⟨hq, hN2, hN4⟩ := qs hm.1 hm.2
        rw [decide_eq_true hm] at HMx
        subst hq
        clear qs zs
        by_cases hj : J k = 0
        case pos =>
          rw [if_pos hj] at fz fl fs
          have gz := fz.symm
          have gl := fl.symm
          have gs := fs.symm
          subst gz gl gs
          clear fz fl fs
          have hj' : ¬ 0 < J k := by omega
          clear hj
          by_cases hgt : A < ta
          case pos =>
            have V6z : Hid (C3 (((wr.setCell ⟨w1.heap.size, 2, none⟩ (.int .i64 ta)).alloc (.cells #[.string (K k), .string (T k), .int .i64 (J k)] 61)).alloc (.cells #[.string (K k), .int .i64 U, .int .i64 tz, .int .i64 (tz / NV)] 76)) w1.heap.size (.slice vs vl vc) (.int .i64 0) (.int .i64 ta)) := (((Y6.set2 (.int .i64 ta)).alloc _).alloc _)
            have V4z : Hid (C3 (((wr.setCell ⟨w1.heap.size, 2, none⟩ (.int .i64 ta)).alloc (.cells #[.string (K k), .string (T k), .int .i64 (J k)] 61)).alloc (.cells #[.string (K k), .int .i64 U, .int .i64 tz, .int .i64 (tz / NV)] 76)) w.heap.size (.slice none 0 0) (.int .i64 0) (.int .i64 0)) := (((Y4.but (p := w1.heap.size) 2 (.int .i64 ta) (by omega)).alloc _).alloc _)
            have HOw : Hid (World.ownsRow (((wr.setCell ⟨w1.heap.size, 2, none⟩ (.int .i64 ta)).alloc (.cells #[.string (K k), .string (T k), .int .i64 (J k)] 61)).alloc (.cells #[.string (K k), .int .i64 U, .int .i64 tz, .int .i64 (tz / NV)] 76)) (w1.heap.size + 1) 76 4 (.slice vs vl vc) k (cellsS (spotsL K T J r k))) := (((owns_but hown w1.heap.size 2 (.int .i64 ta) (by omega)).alloc _).alloc _)
            have HBz : Hid (Below w.heap.size w (((wr.setCell ⟨w1.heap.size, 2, none⟩ (.int .i64 ta)).alloc (.cells #[.string (K k), .string (T k), .int .i64 (J k)] 61)).alloc (.cells #[.string (K k), .int .i64 U, .int .i64 tz, .int .i64 (tz / NV)] 76))) := (((Below.setCell B (by show w.heap.size ≤ w1.heap.size; omega) _).alloc (by have := B.size; simp; omega) _).alloc (by have := B.size; simp; omega) _)
            have HN4 : Hid (C4 ((((wr.setCell ⟨w1.heap.size, 2, none⟩ (.int .i64 ta)).alloc (.cells #[.string (K k), .string (T k), .int .i64 (J k)] 61)).alloc (.cells #[.string (K k), .int .i64 U, .int .i64 tz, .int .i64 (tz / NV)] 76)).alloc (.cells #[.string (K k), .int .i64 U, .int .i64 tz, .int .i64 (tz / NV)] 76)) (wr.heap.size + 1 + 1) (.string (K k)) (.int .i64 U) (.int .i64 tz) (.int .i64 (tz / NV))) := by
              have h := C4.new (((wr.setCell ⟨w1.heap.size, 2, none⟩ (.int .i64 ta)).alloc (.cells #[.string (K k), .string (T k), .int .i64 (J k)] 61)).alloc (.cells #[.string (K k), .int .i64 U, .int .i64 tz, .int .i64 (tz / NV)] 76)) (.string (K k)) (.int .i64 U) (.int .i64 tz) (.int .i64 (tz / NV)) 76
              have hs : (World.heap (((wr.setCell ⟨w1.heap.size, 2, none⟩ (.int .i64 ta)).alloc (.cells #[.string (K k), .string (T k), .int .i64 (J k)] 61)).alloc (.cells #[.string (K k), .int .i64 U, .int .i64 tz, .int .i64 (tz / NV)] 76))).size = wr.heap.size + 1 + 1 := by simp
              rw [hs] at h
              exact h
            have b0 := Y6.c0
            have b1 := Y6.c2
            have b2 := Y6.f2
            have HLt : Hid (alM T J r (k + 1) = ta) := by show _ = _; rw [HL.out]; omega
            go_wp2_with (first | (go_at_call 14; refine (HT.out _).mono ?_; rintro e w' ⟨rfl, hw⟩; subst w') | (go_at_call 46; refine (HMx.out _).mono ?_; rintro e w' ⟨rfl, hw⟩; subst w') | (go_at_call 44; refine (HV.out _).mono ?_; rintro e w' ⟨rfl, hw⟩; subst w') | (go_at_call 51; refine (HU.out _).mono ?_; rintro e w' ⟨rfl, hw⟩; subst w') | (at_builtin; refine wpList_append_own _ rfl _ _ 32 rfl (w1.heap.size + 1) 76 i0' (.agg #[.string ⟨#[]⟩, .int .i64 0, .int .i64 0, .int .i64 0]) 4 40 Try.underlying32 hi hz0 hz1 hz2 rfl (by decide) _ _ _ rfl (HOw.out.alloc _) _ 1 1 [.string (K k), .int .i64 U, .int .i64 tz, .int .i64 (tz / NV)] rfl rfl ?c1 ?c2 ?c3 ?c4 ?c5 ?_))
            case c1 =>
              intro j u hj
              match j, hj with
              | 0, hj => simp at hj; subst hj; simpa [Addr.add] using HN4.out.c0
              | 1, hj => simp at hj; subst hj; simpa [Addr.add] using HN4.out.c1
              | 2, hj => simp at hj; subst hj; simpa [Addr.add] using HN4.out.c2
              | 3, hj => simp at hj; subst hj; simpa [Addr.add] using HN4.out.c3
            case c2 => intro u hu; simp at hu; rcases hu with rfl | rfl | rfl | rfl <;> rfl
            case c3 => unfold maxLen; omega
            case c4 => omega
            case c5 => simp; omega
            intro v' w4 hown' hgrow hnil
            obtain ⟨g, cap, rfl, hg1, hg2⟩ := World.ownsRow.form hown' (by omega)
            have far : ∀ q, (Value.slice vs vl vc).ownBlock = some q → w1.heap.size + 1 ≤ q := fun q hq => (hown.lt q hq).1
            have R1 : w4.ownsRow (w1.heap.size + 1) 76 4 (.slice (some ⟨g, 0, none⟩) (k + 1) cap) (k + 1) (cellsS (spotsL K T J r (k + 1))) := by rw [HSP.out]; exact hown'
            have ne6 : some w1.heap.size ≠ (Value.slice vs vl vc).ownBlock := fun e => by have := far _ e.symm; omega
            have ne4 : some w.heap.size ≠ (Value.slice vs vl vc).ownBlock := fun e => by have := far _ e.symm; omega
            have V6 := (V6z.out.alloc (.cells #[.string (K k), .int .i64 U, .int .i64 tz, .int .i64 (tz / NV)] 76)).grown hgrow ne6
            have HV6 : Hid (C3 _ _ _ _ _) := V6.set0 (.slice (some ⟨g, 0, none⟩) (k + 1) cap)
            have HV4 : Hid (C3 _ _ _ _ _) := ((V4z.out.alloc (.cells #[.string (K k), .int .i64 U, .int .i64 tz, .int .i64 (tz / NV)] 76)).grown hgrow ne4).but (p := w1.heap.size) 0 (.slice (some ⟨g, 0, none⟩) (k + 1) cap) (by omega)
            have HR2 : Hid (_) := owns_but R1 w1.heap.size 0 (.slice (some ⟨g, 0, none⟩) (k + 1) cap) (by omega)
            have HB4 : Hid (Below w.heap.size w w4) := (HBz.out.alloc HBz.out.size _).grown hgrow (by have := HBz.out.size; simp; omega) (fun q hq => by have := far q hq; omega)
            obtain ⟨x0, x1, x2, y0, y1, y2, _⟩ := V6
            clear hown' hgrow hown hnil R1 far b0 b1 b2
            go_wp2
            exact ⟨⟨k + 1, _, by omega, by go_num, by rw [HE.out], by rw [HLt.out]; exact HV6.out, HR2.out, HV4.out, HB4.out.setCell (by show w.heap.size ≤ w1.heap.size; omega) _⟩, by simp [intOf]; omega⟩
          have V6z : Hid (C3 ((wr.alloc (.cells #[.string (K k), .string (T k), .int .i64 (J k)] 61)).alloc (.cells #[.string (K k), .int .i64 U, .int .i64 tz, .int .i64 (tz / NV)] 76)) w1.heap.size (.slice vs vl vc) (.int .i64 0) (.int .i64 A)) := ((Y6.alloc _).alloc _)
          have V4z : Hid (C3 ((wr.alloc (.cells #[.string (K k), .string (T k), .int .i64 (J k)] 61)).alloc (.cells #[.string (K k), .int .i64 U, .int .i64 tz, .int .i64 (tz / NV)] 76)) w.heap.size (.slice none 0 0) (.int .i64 0) (.int .i64 0)) := ((Y4.alloc _).alloc _)
          have HOw : Hid (World.ownsRow ((wr.alloc (.cells #[.string (K k), .string (T k), .int .i64 (J k)] 61)).alloc (.cells #[.string (K k), .int .i64 U, .int .i64 tz, .int .i64 (tz / NV)] 76)) (w1.heap.size + 1) 76 4 (.slice vs vl vc) k (cellsS (spotsL K T J r k))) := ((hown.alloc _).alloc _)
          have HBz : Hid (Below w.heap.size w ((wr.alloc (.cells #[.string (K k), .string (T k), .int .i64 (J k)] 61)).alloc (.cells #[.string (K k), .int .i64 U, .int .i64 tz, .int .i64 (tz / NV)] 76))) := ((B.alloc (by have := B.size; simp; omega) _).alloc (by have := B.size; simp; omega) _)
          have HN4 : Hid (C4 (((wr.alloc (.cells #[.string (K k), .string (T k), .int .i64 (J k)] 61)).alloc (.cells #[.string (K k), .int .i64 U, .int .i64 tz, .int .i64 (tz / NV)] 76)).alloc (.cells #[.string (K k), .int .i64 U, .int .i64 tz, .int .i64 (tz / NV)] 76)) (wr.heap.size + 1 + 1) (.string (K k)) (.int .i64 U) (.int .i64 tz) (.int .i64 (tz / NV))) := by
            have h := C4.new ((wr.alloc (.cells #[.string (K k), .string (T k), .int .i64 (J k)] 61)).alloc (.cells #[.string (K k), .int .i64 U, .int .i64 tz, .int .i64 (tz / NV)] 76)) (.string (K k)) (.int .i64 U) (.int .i64 tz) (.int .i64 (tz / NV)) 76
            have hs : (World.heap ((wr.alloc (.cells #[.string (K k), .string (T k), .int .i64 (J k)] 61)).alloc (.cells #[.string (K k), .int .i64 U, .int .i64 tz, .int .i64 (tz / NV)] 76))).size = wr.heap.size + 1 + 1 := by simp
            rw [hs] at h
            exact h
          have b0 := Y6.c0
          have b1 := Y6.c2
          have b2 := Y6.f2
          have HLt : Hid (alM T J r (k + 1) = A) := by show _ = _; rw [HL.out]; omega
          go_wp2_with (first | (go_at_call 14; refine (HT.out _).mono ?_; rintro e w' ⟨rfl, hw⟩; subst w') | (go_at_call 46; refine (HMx.out _).mono ?_; rintro e w' ⟨rfl, hw⟩; subst w') | (go_at_call 44; refine (HV.out _).mono ?_; rintro e w' ⟨rfl, hw⟩; subst w') | (go_at_call 51; refine (HU.out _).mono ?_; rintro e w' ⟨rfl, hw⟩; subst w') | (at_builtin; refine wpList_append_own _ rfl _ _ 32 rfl (w1.heap.size + 1) 76 i0' (.agg #[.string ⟨#[]⟩, .int .i64 0, .int .i64 0, .int .i64 0]) 4 40 Try.underlying32 hi hz0 hz1 hz2 rfl (by decide) _ _ _ rfl (HOw.out.alloc _) _ 1 1 [.string (K k), .int .i64 U, .int .i64 tz, .int .i64 (tz / NV)] rfl rfl ?c1 ?c2 ?c3 ?c4 ?c5 ?_))
          case c1 =>
            intro j u hj
            match j, hj with
            | 0, hj => simp at hj; subst hj; simpa [Addr.add] using HN4.out.c0
            | 1, hj => simp at hj; subst hj; simpa [Addr.add] using HN4.out.c1
            | 2, hj => simp at hj; subst hj; simpa [Addr.add] using HN4.out.c2
            | 3, hj => simp at hj; subst hj; simpa [Addr.add] using HN4.out.c3
          case c2 => intro u hu; simp at hu; rcases hu with rfl | rfl | rfl | rfl <;> rfl
          case c3 => unfold maxLen; omega
          case c4 => omega
          case c5 => simp; omega
          intro v' w4 hown' hgrow hnil
          obtain ⟨g, cap, rfl, hg1, hg2⟩ := World.ownsRow.form hown' (by omega)
          have far : ∀ q, (Value.slice vs vl vc).ownBlock = some q → w1.heap.size + 1 ≤ q := fun q hq => (hown.lt q hq).1
          have R1 : w4.ownsRow (w1.heap.size + 1) 76 4 (.slice (some ⟨g, 0, none⟩) (k + 1) cap) (k + 1) (cellsS (spotsL K T J r (k + 1))) := by rw [HSP.out]; exact hown'
          have ne6 : some w1.heap.size ≠ (Value.slice vs vl vc).ownBlock := fun e => by have := far _ e.symm; omega
          have ne4 : some w.heap.size ≠ (Value.slice vs vl vc).ownBlock := fun e => by have := far _ e.symm; omega
          have V6 := (V6z.out.alloc (.cells #[.string (K k), .int .i64 U, .int .i64 tz, .int .i64 (tz / NV)] 76)).grown hgrow ne6
          have HV6 : Hid (C3 _ _ _ _ _) := V6.set0 (.slice (some ⟨g, 0, none⟩) (k + 1) cap)
          have HV4 : Hid (C3 _ _ _ _ _) := ((V4z.out.alloc (.cells #[.string (K k), .int .i64 U, .int .i64 tz, .int .i64 (tz / NV)] 76)).grown hgrow ne4).but (p := w1.heap.size) 0 (.slice (some ⟨g, 0, none⟩) (k + 1) cap) (by omega)
          have HR2 : Hid (_) := owns_but R1 w1.heap.size 0 (.slice (some ⟨g, 0, none⟩) (k + 1) cap) (by omega)
          have HB4 : Hid (Below w.heap.size w w4) := (HBz.out.alloc HBz.out.size _).grown hgrow (by have := HBz.out.size; simp; omega) (fun q hq => by have := far q hq; omega)
          obtain ⟨x0, x1, x2, y0, y1, y2, _⟩ := V6
          clear hown' hgrow hown hnil R1 far b0 b1 b2
          go_wp2
          exact ⟨⟨k + 1, _, by omega, by go_num, by rw [HE.out], by rw [HLt.out]; exact HV6.out, HR2.out, HV4.out, HB4.out.setCell (by show w.heap.size ≤ w1.heap.size; omega) _⟩, by simp [intOf]; omega⟩
        skip
        rw [if_neg hj] at fz fl fs
        have gz := fz.symm
        have gl := fl.symm
        have gs := fs.symm
        subst gz gl gs
        clear fz fl fs
        have hj' : 0 < J k := by omega
        clear hj
        by_cases hgt : A < MM
        case pos =>
          have V6z : Hid (C3 (((wr.setCell ⟨w1.heap.size, 2, none⟩ (.int .i64 MM)).alloc (.cells #[.string (K k), .string (T k), .int .i64 (J k)] 61)).alloc (.cells #[.string (K k), .int .i64 U, .int .i64 (J k * UU), .int .i64 (UU)] 76)) w1.heap.size (.slice vs vl vc) (.int .i64 0) (.int .i64 MM)) := (((Y6.set2 (.int .i64 MM)).alloc _).alloc _)
          have V4z : Hid (C3 (((wr.setCell ⟨w1.heap.size, 2, none⟩ (.int .i64 MM)).alloc (.cells #[.string (K k), .string (T k), .int .i64 (J k)] 61)).alloc (.cells #[.string (K k), .int .i64 U, .int .i64 (J k * UU), .int .i64 (UU)] 76)) w.heap.size (.slice none 0 0) (.int .i64 0) (.int .i64 0)) := (((Y4.but (p := w1.heap.size) 2 (.int .i64 MM) (by omega)).alloc _).alloc _)
          have HOw : Hid (World.ownsRow (((wr.setCell ⟨w1.heap.size, 2, none⟩ (.int .i64 MM)).alloc (.cells #[.string (K k), .string (T k), .int .i64 (J k)] 61)).alloc (.cells #[.string (K k), .int .i64 U, .int .i64 (J k * UU), .int .i64 (UU)] 76)) (w1.heap.size + 1) 76 4 (.slice vs vl vc) k (cellsS (spotsL K T J r k))) := (((owns_but hown w1.heap.size 2 (.int .i64 MM) (by omega)).alloc _).alloc _)
          have HBz : Hid (Below w.heap.size w (((wr.setCell ⟨w1.heap.size, 2, none⟩ (.int .i64 MM)).alloc (.cells #[.string (K k), .string (T k), .int .i64 (J k)] 61)).alloc (.cells #[.string (K k), .int .i64 U, .int .i64 (J k * UU), .int .i64 (UU)] 76))) := (((Below.setCell B (by show w.heap.size ≤ w1.heap.size; omega) _).alloc (by have := B.size; simp; omega) _).alloc (by have := B.size; simp; omega) _)
          have HN4 : Hid (C4 ((((wr.setCell ⟨w1.heap.size, 2, none⟩ (.int .i64 MM)).alloc (.cells #[.string (K k), .string (T k), .int .i64 (J k)] 61)).alloc (.cells #[.string (K k), .int .i64 U, .int .i64 (J k * UU), .int .i64 (UU)] 76)).alloc (.cells #[.string (K k), .int .i64 U, .int .i64 (J k * UU), .int .i64 (UU)] 76)) (wr.heap.size + 1 + 1) (.string (K k)) (.int .i64 U) (.int .i64 (J k * UU)) (.int .i64 (UU))) := by
            have h := C4.new (((wr.setCell ⟨w1.heap.size, 2, none⟩ (.int .i64 MM)).alloc (.cells #[.string (K k), .string (T k), .int .i64 (J k)] 61)).alloc (.cells #[.string (K k), .int .i64 U, .int .i64 (J k * UU), .int .i64 (UU)] 76)) (.string (K k)) (.int .i64 U) (.int .i64 (J k * UU)) (.int .i64 (UU)) 76
            have hs : (World.heap (((wr.setCell ⟨w1.heap.size, 2, none⟩ (.int .i64 MM)).alloc (.cells #[.string (K k), .string (T k), .int .i64 (J k)] 61)).alloc (.cells #[.string (K k), .int .i64 U, .int .i64 (J k * UU), .int .i64 (UU)] 76))).size = wr.heap.size + 1 + 1 := by simp
            rw [hs] at h
            exact h
          have b0 := Y6.c0
          have b1 := Y6.c2
          have b2 := Y6.f2
          have HLt : Hid (alM T J r (k + 1) = MM) := by show _ = _; rw [HL.out]; omega
          go_wp2_with (first | (go_at_call 14; refine (HT.out _).mono ?_; rintro e w' ⟨rfl, hw⟩; subst w') | (go_at_call 46; refine (HMx.out _).mono ?_; rintro e w' ⟨rfl, hw⟩; subst w') | (go_at_call 44; refine (HV.out _).mono ?_; rintro e w' ⟨rfl, hw⟩; subst w') | (go_at_call 47; refine (HAr.out _).mono ?_; rintro e w' ⟨rfl, hw⟩; subst w') | (go_at_call 51; refine (HU.out _).mono ?_; rintro e w' ⟨rfl, hw⟩; subst w') | (at_builtin; refine wpList_append_own _ rfl _ _ 32 rfl (w1.heap.size + 1) 76 i0' (.agg #[.string ⟨#[]⟩, .int .i64 0, .int .i64 0, .int .i64 0]) 4 40 Try.underlying32 hi hz0 hz1 hz2 rfl (by decide) _ _ _ rfl (HOw.out.alloc _) _ 1 1 [.string (K k), .int .i64 U, .int .i64 (J k * UU), .int .i64 (UU)] rfl rfl ?c1 ?c2 ?c3 ?c4 ?c5 ?_))
          case c1 =>
            intro j u hj
            match j, hj with
            | 0, hj => simp at hj; subst hj; simpa [Addr.add] using HN4.out.c0
            | 1, hj => simp at hj; subst hj; simpa [Addr.add] using HN4.out.c1
            | 2, hj => simp at hj; subst hj; simpa [Addr.add] using HN4.out.c2
            | 3, hj => simp at hj; subst hj; simpa [Addr.add] using HN4.out.c3
          case c2 => intro u hu; simp at hu; rcases hu with rfl | rfl | rfl | rfl <;> rfl
          case c3 => unfold maxLen; omega
          case c4 => omega
          case c5 => simp; omega
          intro v' w4 hown' hgrow hnil
          obtain ⟨g, cap, rfl, hg1, hg2⟩ := World.ownsRow.form hown' (by omega)
          have far : ∀ q, (Value.slice vs vl vc).ownBlock = some q → w1.heap.size + 1 ≤ q := fun q hq => (hown.lt q hq).1
          have R1 : w4.ownsRow (w1.heap.size + 1) 76 4 (.slice (some ⟨g, 0, none⟩) (k + 1) cap) (k + 1) (cellsS (spotsL K T J r (k + 1))) := by rw [HSP.out]; exact hown'
          have ne6 : some w1.heap.size ≠ (Value.slice vs vl vc).ownBlock := fun e => by have := far _ e.symm; omega
          have ne4 : some w.heap.size ≠ (Value.slice vs vl vc).ownBlock := fun e => by have := far _ e.symm; omega
          have V6 := (V6z.out.alloc (.cells #[.string (K k), .int .i64 U, .int .i64 (J k * UU), .int .i64 (UU)] 76)).grown hgrow ne6
          have HV6 : Hid (C3 _ _ _ _ _) := V6.set0 (.slice (some ⟨g, 0, none⟩) (k + 1) cap)
          have HV4 : Hid (C3 _ _ _ _ _) := ((V4z.out.alloc (.cells #[.string (K k), .int .i64 U, .int .i64 (J k * UU), .int .i64 (UU)] 76)).grown hgrow ne4).but (p := w1.heap.size) 0 (.slice (some ⟨g, 0, none⟩) (k + 1) cap) (by omega)
          have HR2 : Hid (_) := owns_but R1 w1.heap.size 0 (.slice (some ⟨g, 0, none⟩) (k + 1) cap) (by omega)
          have HB4 : Hid (Below w.heap.size w w4) := (HBz.out.alloc HBz.out.size _).grown hgrow (by have := HBz.out.size; simp; omega) (fun q hq => by have := far q hq; omega)
          obtain ⟨x0, x1, x2, y0, y1, y2, _⟩ := V6
          clear hown' hgrow hown hnil R1 far b0 b1 b2
          go_wp2
          exact ⟨⟨k + 1, _, by omega, by go_num, by rw [HE.out], by rw [HLt.out]; exact HV6.out, HR2.out, HV4.out, HB4.out.setCell (by show w.heap.size ≤ w1.heap.size; omega) _⟩, by simp [intOf]; omega⟩
        have V6z : Hid (C3 ((wr.alloc (.cells #[.string (K k), .string (T k), .int .i64 (J k)] 61)).alloc (.cells #[.string (K k), .int .i64 U, .int .i64 (J k * UU), .int .i64 (UU)] 76)) w1.heap.size (.slice vs vl vc) (.int .i64 0) (.int .i64 A)) := ((Y6.alloc _).alloc _)
        have V4z : Hid (C3 ((wr.alloc (.cells #[.string (K k), .string (T k), .int .i64 (J k)] 61)).alloc (.cells #[.string (K k), .int .i64 U, .int .i64 (J k * UU), .int .i64 (UU)] 76)) w.heap.size (.slice none 0 0) (.int .i64 0) (.int .i64 0)) := ((Y4.alloc _).alloc _)
        have HOw : Hid (World.ownsRow ((wr.alloc (.cells #[.string (K k), .string (T k), .int .i64 (J k)] 61)).alloc (.cells #[.string (K k), .int .i64 U, .int .i64 (J k * UU), .int .i64 (UU)] 76)) (w1.heap.size + 1) 76 4 (.slice vs vl vc) k (cellsS (spotsL K T J r k))) := ((hown.alloc _).alloc _)
        have HBz : Hid (Below w.heap.size w ((wr.alloc (.cells #[.string (K k), .string (T k), .int .i64 (J k)] 61)).alloc (.cells #[.string (K k), .int .i64 U, .int .i64 (J k * UU), .int .i64 (UU)] 76))) := ((B.alloc (by have := B.size; simp; omega) _).alloc (by have := B.size; simp; omega) _)
        have HN4 : Hid (C4 (((wr.alloc (.cells #[.string (K k), .string (T k), .int .i64 (J k)] 61)).alloc (.cells #[.string (K k), .int .i64 U, .int .i64 (J k * UU), .int .i64 (UU)] 76)).alloc (.cells #[.string (K k), .int .i64 U, .int .i64 (J k * UU), .int .i64 (UU)] 76)) (wr.heap.size + 1 + 1) (.string (K k)) (.int .i64 U) (.int .i64 (J k * UU)) (.int .i64 (UU))) := by
          have h := C4.new ((wr.alloc (.cells #[.string (K k), .string (T k), .int .i64 (J k)] 61)).alloc (.cells #[.string (K k), .int .i64 U, .int .i64 (J k * UU), .int .i64 (UU)] 76)) (.string (K k)) (.int .i64 U) (.int .i64 (J k * UU)) (.int .i64 (UU)) 76
          have hs : (World.heap ((wr.alloc (.cells #[.string (K k), .string (T k), .int .i64 (J k)] 61)).alloc (.cells #[.string (K k), .int .i64 U, .int .i64 (J k * UU), .int .i64 (UU)] 76))).size = wr.heap.size + 1 + 1 := by simp
          rw [hs] at h
          exact h
        have b0 := Y6.c0
        have b1 := Y6.c2
        have b2 := Y6.f2
        have HLt : Hid (alM T J r (k + 1) = A) := by show _ = _; rw [HL.out]; omega
        go_wp2_with (first | (go_at_call 14; refine (HT.out _).mono ?_; rintro e w' ⟨rfl, hw⟩; subst w') | (go_at_call 46; refine (HMx.out _).mono ?_; rintro e w' ⟨rfl, hw⟩; subst w') | (go_at_call 44; refine (HV.out _).mono ?_; rintro e w' ⟨rfl, hw⟩; subst w') | (go_at_call 47; refine (HAr.out _).mono ?_; rintro e w' ⟨rfl, hw⟩; subst w') | (go_at_call 51; refine (HU.out _).mono ?_; rintro e w' ⟨rfl, hw⟩; subst w') | (at_builtin; refine wpList_append_own _ rfl _ _ 32 rfl (w1.heap.size + 1) 76 i0' (.agg #[.string ⟨#[]⟩, .int .i64 0, .int .i64 0, .int .i64 0]) 4 40 Try.underlying32 hi hz0 hz1 hz2 rfl (by decide) _ _ _ rfl (HOw.out.alloc _) _ 1 1 [.string (K k), .int .i64 U, .int .i64 (J k * UU), .int .i64 (UU)] rfl rfl ?c1 ?c2 ?c3 ?c4 ?c5 ?_))
        case c1 =>
          intro j u hj
          match j, hj with
          | 0, hj => simp at hj; subst hj; simpa [Addr.add] using HN4.out.c0
          | 1, hj => simp at hj; subst hj; simpa [Addr.add] using HN4.out.c1
          | 2, hj => simp at hj; subst hj; simpa [Addr.add] using HN4.out.c2
          | 3, hj => simp at hj; subst hj; simpa [Addr.add] using HN4.out.c3
        case c2 => intro u hu; simp at hu; rcases hu with rfl | rfl | rfl | rfl <;> rfl
        case c3 => unfold maxLen; omega
        case c4 => omega
        case c5 => simp; omega
        intro v' w4 hown' hgrow hnil
        obtain ⟨g, cap, rfl, hg1, hg2⟩ := World.ownsRow.form hown' (by omega)
        have far : ∀ q, (Value.slice vs vl vc).ownBlock = some q → w1.heap.size + 1 ≤ q := fun q hq => (hown.lt q hq).1
        have R1 : w4.ownsRow (w1.heap.size + 1) 76 4 (.slice (some ⟨g, 0, none⟩) (k + 1) cap) (k + 1) (cellsS (spotsL K T J r (k + 1))) := by rw [HSP.out]; exact hown'
        have ne6 : some w1.heap.size ≠ (Value.slice vs vl vc).ownBlock := fun e => by have := far _ e.symm; omega
        have ne4 : some w.heap.size ≠ (Value.slice vs vl vc).ownBlock := fun e => by have := far _ e.symm; omega
        have V6 := (V6z.out.alloc (.cells #[.string (K k), .int .i64 U, .int .i64 (J k * UU), .int .i64 (UU)] 76)).grown hgrow ne6
        have HV6 : Hid (C3 _ _ _ _ _) := V6.set0 (.slice (some ⟨g, 0, none⟩) (k + 1) cap)
        have HV4 : Hid (C3 _ _ _ _ _) := ((V4z.out.alloc (.cells #[.string (K k), .int .i64 U, .int .i64 (J k * UU), .int .i64 (UU)] 76)).grown hgrow ne4).but (p := w1.heap.size) 0 (.slice (some ⟨g, 0, none⟩) (k + 1) cap) (by omega)
        have HR2 : Hid (_) := owns_but R1 w1.heap.size 0 (.slice (some ⟨g, 0, none⟩) (k + 1) cap) (by omega)
        have HB4 : Hid (Below w.heap.size w w4) := (HBz.out.alloc HBz.out.size _).grown hgrow (by have := HBz.out.size; simp; omega) (fun q hq => by have := far q hq; omega)
        obtain ⟨x0, x1, x2, y0, y1, y2, _⟩ := V6
        clear hown' hgrow hown hnil R1 far b0 b1 b2
        go_wp2
        exact ⟨⟨k + 1, _, by omega, by go_num, by rw [HE.out], by rw [HLt.out]; exact HV6.out, HR2.out, HV4.out, HB4.out.setCell (by show w.heap.size ≤ w1.heap.size; omega) _⟩, by simp [intOf]; omega⟩
      skip
      rw [decide_eq_false hm] at HMx
      have z0 := zs hm
      subst z0
      clear qs zs
      by_cases hj : J k = 0
      case pos =>
        rw [if_pos hj] at fz fl fs
        have gz := fz.symm
        have gl := fl.symm
        have gs := fs.symm
        subst gz gl gs
        clear fz fl fs
        have hj' : ¬ 0 < J k := by omega
        clear hj
        by_cases hgt : A < ta
        case pos =>
          have V6z : Hid (C3 (((wr.setCell ⟨w1.heap.size, 2, none⟩ (.int .i64 ta)).alloc (.cells #[.string (K k), .string (T k), .int .i64 (J k)] 61)).alloc (.cells #[.string (K k), .int .i64 U, .int .i64 tz, .int .i64 (0)] 76)) w1.heap.size (.slice vs vl vc) (.int .i64 0) (.int .i64 ta)) := (((Y6.set2 (.int .i64 ta)).alloc _).alloc _)
          have V4z : Hid (C3 (((wr.setCell ⟨w1.heap.size, 2, none⟩ (.int .i64 ta)).alloc (.cells #[.string (K k), .string (T k), .int .i64 (J k)] 61)).alloc (.cells #[.string (K k), .int .i64 U, .int .i64 tz, .int .i64 (0)] 76)) w.heap.size (.slice none 0 0) (.int .i64 0) (.int .i64 0)) := (((Y4.but (p := w1.heap.size) 2 (.int .i64 ta) (by omega)).alloc _).alloc _)
          have HOw : Hid (World.ownsRow (((wr.setCell ⟨w1.heap.size, 2, none⟩ (.int .i64 ta)).alloc (.cells #[.string (K k), .string (T k), .int .i64 (J k)] 61)).alloc (.cells #[.string (K k), .int .i64 U, .int .i64 tz, .int .i64 (0)] 76)) (w1.heap.size + 1) 76 4 (.slice vs vl vc) k (cellsS (spotsL K T J r k))) := (((owns_but hown w1.heap.size 2 (.int .i64 ta) (by omega)).alloc _).alloc _)
          have HBz : Hid (Below w.heap.size w (((wr.setCell ⟨w1.heap.size, 2, none⟩ (.int .i64 ta)).alloc (.cells #[.string (K k), .string (T k), .int .i64 (J k)] 61)).alloc (.cells #[.string (K k), .int .i64 U, .int .i64 tz, .int .i64 (0)] 76))) := (((Below.setCell B (by show w.heap.size ≤ w1.heap.size; omega) _).alloc (by have := B.size; simp; omega) _).alloc (by have := B.size; simp; omega) _)
          have HN4 : Hid (C4 ((((wr.setCell ⟨w1.heap.size, 2, none⟩ (.int .i64 ta)).alloc (.cells #[.string (K k), .string (T k), .int .i64 (J k)] 61)).alloc (.cells #[.string (K k), .int .i64 U, .int .i64 tz, .int .i64 (0)] 76)).alloc (.cells #[.string (K k), .int .i64 U, .int .i64 tz, .int .i64 (0)] 76)) (wr.heap.size + 1 + 1) (.string (K k)) (.int .i64 U) (.int .i64 tz) (.int .i64 (0))) := by
            have h := C4.new (((wr.setCell ⟨w1.heap.size, 2, none⟩ (.int .i64 ta)).alloc (.cells #[.string (K k), .string (T k), .int .i64 (J k)] 61)).alloc (.cells #[.string (K k), .int .i64 U, .int .i64 tz, .int .i64 (0)] 76)) (.string (K k)) (.int .i64 U) (.int .i64 tz) (.int .i64 (0)) 76
            have hs : (World.heap (((wr.setCell ⟨w1.heap.size, 2, none⟩ (.int .i64 ta)).alloc (.cells #[.string (K k), .string (T k), .int .i64 (J k)] 61)).alloc (.cells #[.string (K k), .int .i64 U, .int .i64 tz, .int .i64 (0)] 76))).size = wr.heap.size + 1 + 1 := by simp
            rw [hs] at h
            exact h
          have b0 := Y6.c0
          have b1 := Y6.c2
          have b2 := Y6.f2
          have HLt : Hid (alM T J r (k + 1) = ta) := by show _ = _; rw [HL.out]; omega
          go_wp2_with (first | (go_at_call 14; refine (HT.out _).mono ?_; rintro e w' ⟨rfl, hw⟩; subst w') | (go_at_call 46; refine (HMx.out _).mono ?_; rintro e w' ⟨rfl, hw⟩; subst w') | (go_at_call 51; refine (HU.out _).mono ?_; rintro e w' ⟨rfl, hw⟩; subst w') | (at_builtin; refine wpList_append_own _ rfl _ _ 32 rfl (w1.heap.size + 1) 76 i0' (.agg #[.string ⟨#[]⟩, .int .i64 0, .int .i64 0, .int .i64 0]) 4 40 Try.underlying32 hi hz0 hz1 hz2 rfl (by decide) _ _ _ rfl (HOw.out.alloc _) _ 1 1 [.string (K k), .int .i64 U, .int .i64 tz, .int .i64 (0)] rfl rfl ?c1 ?c2 ?c3 ?c4 ?c5 ?_))
          case c1 =>
            intro j u hj
            match j, hj with
            | 0, hj => simp at hj; subst hj; simpa [Addr.add] using HN4.out.c0
            | 1, hj => simp at hj; subst hj; simpa [Addr.add] using HN4.out.c1
            | 2, hj => simp at hj; subst hj; simpa [Addr.add] using HN4.out.c2
            | 3, hj => simp at hj; subst hj; simpa [Addr.add] using HN4.out.c3
          case c2 => intro u hu; simp at hu; rcases hu with rfl | rfl | rfl | rfl <;> rfl
          case c3 => unfold maxLen; omega
          case c4 => omega
          case c5 => simp; omega
          intro v' w4 hown' hgrow hnil
          obtain ⟨g, cap, rfl, hg1, hg2⟩ := World.ownsRow.form hown' (by omega)
          have far : ∀ q, (Value.slice vs vl vc).ownBlock = some q → w1.heap.size + 1 ≤ q := fun q hq => (hown.lt q hq).1
          have R1 : w4.ownsRow (w1.heap.size + 1) 76 4 (.slice (some ⟨g, 0, none⟩) (k + 1) cap) (k + 1) (cellsS (spotsL K T J r (k + 1))) := by rw [HSP.out]; exact hown'
          have ne6 : some w1.heap.size ≠ (Value.slice vs vl vc).ownBlock := fun e => by have := far _ e.symm; omega
          have ne4 : some w.heap.size ≠ (Value.slice vs vl vc).ownBlock := fun e => by have := far _ e.symm; omega
          have V6 := (V6z.out.alloc (.cells #[.string (K k), .int .i64 U, .int .i64 tz, .int .i64 (0)] 76)).grown hgrow ne6
          have HV6 : Hid (C3 _ _ _ _ _) := V6.set0 (.slice (some ⟨g, 0, none⟩) (k + 1) cap)
          have HV4 : Hid (C3 _ _ _ _ _) := ((V4z.out.alloc (.cells #[.string (K k), .int .i64 U, .int .i64 tz, .int .i64 (0)] 76)).grown hgrow ne4).but (p := w1.heap.size) 0 (.slice (some ⟨g, 0, none⟩) (k + 1) cap) (by omega)
          have HR2 : Hid (_) := owns_but R1 w1.heap.size 0 (.slice (some ⟨g, 0, none⟩) (k + 1) cap) (by omega)
          have HB4 : Hid (Below w.heap.size w w4) := (HBz.out.alloc HBz.out.size _).grown hgrow (by have := HBz.out.size; simp; omega) (fun q hq => by have := far q hq; omega)
          obtain ⟨x0, x1, x2, y0, y1, y2, _⟩ := V6
          clear hown' hgrow hown hnil R1 far b0 b1 b2
          go_wp2
          exact ⟨⟨k + 1, _, by omega, by go_num, by rw [HE.out], by rw [HLt.out]; exact HV6.out, HR2.out, HV4.out, HB4.out.setCell (by show w.heap.size ≤ w1.heap.size; omega) _⟩, by simp [intOf]; omega⟩
        have V6z : Hid (C3 ((wr.alloc (.cells #[.string (K k), .string (T k), .int .i64 (J k)] 61)).alloc (.cells #[.string (K k), .int .i64 U, .int .i64 tz, .int .i64 (0)] 76)) w1.heap.size (.slice vs vl vc) (.int .i64 0) (.int .i64 A)) := ((Y6.alloc _).alloc _)
        have V4z : Hid (C3 ((wr.alloc (.cells #[.string (K k), .string (T k), .int .i64 (J k)] 61)).alloc (.cells #[.string (K k), .int .i64 U, .int .i64 tz, .int .i64 (0)] 76)) w.heap.size (.slice none 0 0) (.int .i64 0) (.int .i64 0)) := ((Y4.alloc _).alloc _)
        have HOw : Hid (World.ownsRow ((wr.alloc (.cells #[.string (K k), .string (T k), .int .i64 (J k)] 61)).alloc (.cells #[.string (K k), .int .i64 U, .int .i64 tz, .int .i64 (0)] 76)) (w1.heap.size + 1) 76 4 (.slice vs vl vc) k (cellsS (spotsL K T J r k))) := ((hown.alloc _).alloc _)
        have HBz : Hid (Below w.heap.size w ((wr.alloc (.cells #[.string (K k), .string (T k), .int .i64 (J k)] 61)).alloc (.cells #[.string (K k), .int .i64 U, .int .i64 tz, .int .i64 (0)] 76))) := ((B.alloc (by have := B.size; simp; omega) _).alloc (by have := B.size; simp; omega) _)
        have HN4 : Hid (C4 (((wr.alloc (.cells #[.string (K k), .string (T k), .int .i64 (J k)] 61)).alloc (.cells #[.string (K k), .int .i64 U, .int .i64 tz, .int .i64 (0)] 76)).alloc (.cells #[.string (K k), .int .i64 U, .int .i64 tz, .int .i64 (0)] 76)) (wr.heap.size + 1 + 1) (.string (K k)) (.int .i64 U) (.int .i64 tz) (.int .i64 (0))) := by
          have h := C4.new ((wr.alloc (.cells #[.string (K k), .string (T k), .int .i64 (J k)] 61)).alloc (.cells #[.string (K k), .int .i64 U, .int .i64 tz, .int .i64 (0)] 76)) (.string (K k)) (.int .i64 U) (.int .i64 tz) (.int .i64 (0)) 76
          have hs : (World.heap ((wr.alloc (.cells #[.string (K k), .string (T k), .int .i64 (J k)] 61)).alloc (.cells #[.string (K k), .int .i64 U, .int .i64 tz, .int .i64 (0)] 76))).size = wr.heap.size + 1 + 1 := by simp
          rw [hs] at h
          exact h
        have b0 := Y6.c0
        have b1 := Y6.c2
        have b2 := Y6.f2
        have HLt : Hid (alM T J r (k + 1) = A) := by show _ = _; rw [HL.out]; omega
        go_wp2_with (first | (go_at_call 14; refine (HT.out _).mono ?_; rintro e w' ⟨rfl, hw⟩; subst w') | (go_at_call 46; refine (HMx.out _).mono ?_; rintro e w' ⟨rfl, hw⟩; subst w') | (go_at_call 51; refine (HU.out _).mono ?_; rintro e w' ⟨rfl, hw⟩; subst w') | (at_builtin; refine wpList_append_own _ rfl _ _ 32 rfl (w1.heap.size + 1) 76 i0' (.agg #[.string ⟨#[]⟩, .int .i64 0, .int .i64 0, .int .i64 0]) 4 40 Try.underlying32 hi hz0 hz1 hz2 rfl (by decide) _ _ _ rfl (HOw.out.alloc _) _ 1 1 [.string (K k), .int .i64 U, .int .i64 tz, .int .i64 (0)] rfl rfl ?c1 ?c2 ?c3 ?c4 ?c5 ?_))
        case c1 =>
          intro j u hj
          match j, hj with
          | 0, hj => simp at hj; subst hj; simpa [Addr.add] using HN4.out.c0
          | 1, hj => simp at hj; subst hj; simpa [Addr.add] using HN4.out.c1
          | 2, hj => simp at hj; subst hj; simpa [Addr.add] using HN4.out.c2
          | 3, hj => simp at hj; subst hj; simpa [Addr.add] using HN4.out.c3
        case c2 => intro u hu; simp at hu; rcases hu with rfl | rfl | rfl | rfl <;> rfl
        case c3 => unfold maxLen; omega
        case c4 => omega
        case c5 => simp; omega
        intro v' w4 hown' hgrow hnil
        obtain ⟨g, cap, rfl, hg1, hg2⟩ := World.ownsRow.form hown' (by omega)
        have far : ∀ q, (Value.slice vs vl vc).ownBlock = some q → w1.heap.size + 1 ≤ q := fun q hq => (hown.lt q hq).1
        have R1 : w4.ownsRow (w1.heap.size + 1) 76 4 (.slice (some ⟨g, 0, none⟩) (k + 1) cap) (k + 1) (cellsS (spotsL K T J r (k + 1))) := by rw [HSP.out]; exact hown'
        have ne6 : some w1.heap.size ≠ (Value.slice vs vl vc).ownBlock := fun e => by have := far _ e.symm; omega
        have ne4 : some w.heap.size ≠ (Value.slice vs vl vc).ownBlock := fun e => by have := far _ e.symm; omega
        have V6 := (V6z.out.alloc (.cells #[.string (K k), .int .i64 U, .int .i64 tz, .int .i64 (0)] 76)).grown hgrow ne6
        have HV6 : Hid (C3 _ _ _ _ _) := V6.set0 (.slice (some ⟨g, 0, none⟩) (k + 1) cap)
        have HV4 : Hid (C3 _ _ _ _ _) := ((V4z.out.alloc (.cells #[.string (K k), .int .i64 U, .int .i64 tz, .int .i64 (0)] 76)).grown hgrow ne4).but (p := w1.heap.size) 0 (.slice (some ⟨g, 0, none⟩) (k + 1) cap) (by omega)
        have HR2 : Hid (_) := owns_but R1 w1.heap.size 0 (.slice (some ⟨g, 0, none⟩) (k + 1) cap) (by omega)
        have HB4 : Hid (Below w.heap.size w w4) := (HBz.out.alloc HBz.out.size _).grown hgrow (by have := HBz.out.size; simp; omega) (fun q hq => by have := far q hq; omega)
        obtain ⟨x0, x1, x2, y0, y1, y2, _⟩ := V6
        clear hown' hgrow hown hnil R1 far b0 b1 b2
        go_wp2
        exact ⟨⟨k + 1, _, by omega, by go_num, by rw [HE.out], by rw [HLt.out]; exact HV6.out, HR2.out, HV4.out, HB4.out.setCell (by show w.heap.size ≤ w1.heap.size; omega) _⟩, by simp [intOf]; omega⟩
      skip
      rw [if_neg hj] at fz fl fs
      have gz := fz.symm
      have gl := fl.symm
      have gs := fs.symm
      subst gz gl gs
      clear fz fl fs
      have hj' : 0 < J k := by omega
      clear hj
      by_cases hgt : A < MM
      case pos =>
        have V6z : Hid (C3 (((wr.setCell ⟨w1.heap.size, 2, none⟩ (.int .i64 MM)).alloc (.cells #[.string (K k), .string (T k), .int .i64 (J k)] 61)).alloc (.cells #[.string (K k), .int .i64 U, .int .i64 (J k * UU), .int .i64 (UU)] 76)) w1.heap.size (.slice vs vl vc) (.int .i64 0) (.int .i64 MM)) := (((Y6.set2 (.int .i64 MM)).alloc _).alloc _)
        have V4z : Hid (C3 (((wr.setCell ⟨w1.heap.size, 2, none⟩ (.int .i64 MM)).alloc (.cells #[.string (K k), .string (T k), .int .i64 (J k)] 61)).alloc (.cells #[.string (K k), .int .i64 U, .int .i64 (J k * UU), .int .i64 (UU)] 76)) w.heap.size (.slice none 0 0) (.int .i64 0) (.int .i64 0)) := (((Y4.but (p := w1.heap.size) 2 (.int .i64 MM) (by omega)).alloc _).alloc _)
        have HOw : Hid (World.ownsRow (((wr.setCell ⟨w1.heap.size, 2, none⟩ (.int .i64 MM)).alloc (.cells #[.string (K k), .string (T k), .int .i64 (J k)] 61)).alloc (.cells #[.string (K k), .int .i64 U, .int .i64 (J k * UU), .int .i64 (UU)] 76)) (w1.heap.size + 1) 76 4 (.slice vs vl vc) k (cellsS (spotsL K T J r k))) := (((owns_but hown w1.heap.size 2 (.int .i64 MM) (by omega)).alloc _).alloc _)
        have HBz : Hid (Below w.heap.size w (((wr.setCell ⟨w1.heap.size, 2, none⟩ (.int .i64 MM)).alloc (.cells #[.string (K k), .string (T k), .int .i64 (J k)] 61)).alloc (.cells #[.string (K k), .int .i64 U, .int .i64 (J k * UU), .int .i64 (UU)] 76))) := (((Below.setCell B (by show w.heap.size ≤ w1.heap.size; omega) _).alloc (by have := B.size; simp; omega) _).alloc (by have := B.size; simp; omega) _)
        have HN4 : Hid (C4 ((((wr.setCell ⟨w1.heap.size, 2, none⟩ (.int .i64 MM)).alloc (.cells #[.string (K k), .string (T k), .int .i64 (J k)] 61)).alloc (.cells #[.string (K k), .int .i64 U, .int .i64 (J k * UU), .int .i64 (UU)] 76)).alloc (.cells #[.string (K k), .int .i64 U, .int .i64 (J k * UU), .int .i64 (UU)] 76)) (wr.heap.size + 1 + 1) (.string (K k)) (.int .i64 U) (.int .i64 (J k * UU)) (.int .i64 (UU))) := by
          have h := C4.new (((wr.setCell ⟨w1.heap.size, 2, none⟩ (.int .i64 MM)).alloc (.cells #[.string (K k), .string (T k), .int .i64 (J k)] 61)).alloc (.cells #[.string (K k), .int .i64 U, .int .i64 (J k * UU), .int .i64 (UU)] 76)) (.string (K k)) (.int .i64 U) (.int .i64 (J k * UU)) (.int .i64 (UU)) 76
          have hs : (World.heap (((wr.setCell ⟨w1.heap.size, 2, none⟩ (.int .i64 MM)).alloc (.cells #[.string (K k), .string (T k), .int .i64 (J k)] 61)).alloc (.cells #[.string (K k), .int .i64 U, .int .i64 (J k * UU), .int .i64 (UU)] 76))).size = wr.heap.size + 1 + 1 := by simp
          rw [hs] at h
          exact h
        have b0 := Y6.c0
        have b1 := Y6.c2
        have b2 := Y6.f2
        have HLt : Hid (alM T J r (k + 1) = MM) := by show _ = _; rw [HL.out]; omega
        go_wp2_with (first | (go_at_call 14; refine (HT.out _).mono ?_; rintro e w' ⟨rfl, hw⟩; subst w') | (go_at_call 46; refine (HMx.out _).mono ?_; rintro e w' ⟨rfl, hw⟩; subst w') | (go_at_call 47; refine (HAr.out _).mono ?_; rintro e w' ⟨rfl, hw⟩; subst w') | (go_at_call 51; refine (HU.out _).mono ?_; rintro e w' ⟨rfl, hw⟩; subst w') | (at_builtin; refine wpList_append_own _ rfl _ _ 32 rfl (w1.heap.size + 1) 76 i0' (.agg #[.string ⟨#[]⟩, .int .i64 0, .int .i64 0, .int .i64 0]) 4 40 Try.underlying32 hi hz0 hz1 hz2 rfl (by decide) _ _ _ rfl (HOw.out.alloc _) _ 1 1 [.string (K k), .int .i64 U, .int .i64 (J k * UU), .int .i64 (UU)] rfl rfl ?c1 ?c2 ?c3 ?c4 ?c5 ?_))
        case c1 =>
          intro j u hj
          match j, hj with
          | 0, hj => simp at hj; subst hj; simpa [Addr.add] using HN4.out.c0
          | 1, hj => simp at hj; subst hj; simpa [Addr.add] using HN4.out.c1
          | 2, hj => simp at hj; subst hj; simpa [Addr.add] using HN4.out.c2
          | 3, hj => simp at hj; subst hj; simpa [Addr.add] using HN4.out.c3
        case c2 => intro u hu; simp at hu; rcases hu with rfl | rfl | rfl | rfl <;> rfl
        case c3 => unfold maxLen; omega
        case c4 => omega
        case c5 => simp; omega
        intro v' w4 hown' hgrow hnil
        obtain ⟨g, cap, rfl, hg1, hg2⟩ := World.ownsRow.form hown' (by omega)
        have far : ∀ q, (Value.slice vs vl vc).ownBlock = some q → w1.heap.size + 1 ≤ q := fun q hq => (hown.lt q hq).1
        have R1 : w4.ownsRow (w1.heap.size + 1) 76 4 (.slice (some ⟨g, 0, none⟩) (k + 1) cap) (k + 1) (cellsS (spotsL K T J r (k + 1))) := by rw [HSP.out]; exact hown'
        have ne6 : some w1.heap.size ≠ (Value.slice vs vl vc).ownBlock := fun e => by have := far _ e.symm; omega
        have ne4 : some w.heap.size ≠ (Value.slice vs vl vc).ownBlock := fun e => by have := far _ e.symm; omega
        have V6 := (V6z.out.alloc (.cells #[.string (K k), .int .i64 U, .int .i64 (J k * UU), .int .i64 (UU)] 76)).grown hgrow ne6
        have HV6 : Hid (C3 _ _ _ _ _) := V6.set0 (.slice (some ⟨g, 0, none⟩) (k + 1) cap)
        have HV4 : Hid (C3 _ _ _ _ _) := ((V4z.out.alloc (.cells #[.string (K k), .int .i64 U, .int .i64 (J k * UU), .int .i64 (UU)] 76)).grown hgrow ne4).but (p := w1.heap.size) 0 (.slice (some ⟨g, 0, none⟩) (k + 1) cap) (by omega)
        have HR2 : Hid (_) := owns_but R1 w1.heap.size 0 (.slice (some ⟨g, 0, none⟩) (k + 1) cap) (by omega)
        have HB4 : Hid (Below w.heap.size w w4) := (HBz.out.alloc HBz.out.size _).grown hgrow (by have := HBz.out.size; simp; omega) (fun q hq => by have := far q hq; omega)
        obtain ⟨x0, x1, x2, y0, y1, y2, _⟩ := V6
        clear hown' hgrow hown hnil R1 far b0 b1 b2
        go_wp2
        exact ⟨⟨k + 1, _, by omega, by go_num, by rw [HE.out], by rw [HLt.out]; exact HV6.out, HR2.out, HV4.out, HB4.out.setCell (by show w.heap.size ≤ w1.heap.size; omega) _⟩, by simp [intOf]; omega⟩
      have V6z : Hid (C3 ((wr.alloc (.cells #[.string (K k), .string (T k), .int .i64 (J k)] 61)).alloc (.cells #[.string (K k), .int .i64 U, .int .i64 (J k * UU), .int .i64 (UU)] 76)) w1.heap.size (.slice vs vl vc) (.int .i64 0) (.int .i64 A)) := ((Y6.alloc _).alloc _)
      have V4z : Hid (C3 ((wr.alloc (.cells #[.string (K k), .string (T k), .int .i64 (J k)] 61)).alloc (.cells #[.string (K k), .int .i64 U, .int .i64 (J k * UU), .int .i64 (UU)] 76)) w.heap.size (.slice none 0 0) (.int .i64 0) (.int .i64 0)) := ((Y4.alloc _).alloc _)
      have HOw : Hid (World.ownsRow ((wr.alloc (.cells #[.string (K k), .string (T k), .int .i64 (J k)] 61)).alloc (.cells #[.string (K k), .int .i64 U, .int .i64 (J k * UU), .int .i64 (UU)] 76)) (w1.heap.size + 1) 76 4 (.slice vs vl vc) k (cellsS (spotsL K T J r k))) := ((hown.alloc _).alloc _)
      have HBz : Hid (Below w.heap.size w ((wr.alloc (.cells #[.string (K k), .string (T k), .int .i64 (J k)] 61)).alloc (.cells #[.string (K k), .int .i64 U, .int .i64 (J k * UU), .int .i64 (UU)] 76))) := ((B.alloc (by have := B.size; simp; omega) _).alloc (by have := B.size; simp; omega) _)
      have HN4 : Hid (C4 (((wr.alloc (.cells #[.string (K k), .string (T k), .int .i64 (J k)] 61)).alloc (.cells #[.string (K k), .int .i64 U, .int .i64 (J k * UU), .int .i64 (UU)] 76)).alloc (.cells #[.string (K k), .int .i64 U, .int .i64 (J k * UU), .int .i64 (UU)] 76)) (wr.heap.size + 1 + 1) (.string (K k)) (.int .i64 U) (.int .i64 (J k * UU)) (.int .i64 (UU))) := by
        have h := C4.new ((wr.alloc (.cells #[.string (K k), .string (T k), .int .i64 (J k)] 61)).alloc (.cells #[.string (K k), .int .i64 U, .int .i64 (J k * UU), .int .i64 (UU)] 76)) (.string (K k)) (.int .i64 U) (.int .i64 (J k * UU)) (.int .i64 (UU)) 76
        have hs : (World.heap ((wr.alloc (.cells #[.string (K k), .string (T k), .int .i64 (J k)] 61)).alloc (.cells #[.string (K k), .int .i64 U, .int .i64 (J k * UU), .int .i64 (UU)] 76))).size = wr.heap.size + 1 + 1 := by simp
        rw [hs] at h
        exact h
      have b0 := Y6.c0
      have b1 := Y6.c2
      have b2 := Y6.f2
      have HLt : Hid (alM T J r (k + 1) = A) := by show _ = _; rw [HL.out]; omega
      go_wp2_with (first | (go_at_call 14; refine (HT.out _).mono ?_; rintro e w' ⟨rfl, hw⟩; subst w') | (go_at_call 46; refine (HMx.out _).mono ?_; rintro e w' ⟨rfl, hw⟩; subst w') | (go_at_call 47; refine (HAr.out _).mono ?_; rintro e w' ⟨rfl, hw⟩; subst w') | (go_at_call 51; refine (HU.out _).mono ?_; rintro e w' ⟨rfl, hw⟩; subst w') | (at_builtin; refine wpList_append_own _ rfl _ _ 32 rfl (w1.heap.size + 1) 76 i0' (.agg #[.string ⟨#[]⟩, .int .i64 0, .int .i64 0, .int .i64 0]) 4 40 Try.underlying32 hi hz0 hz1 hz2 rfl (by decide) _ _ _ rfl (HOw.out.alloc _) _ 1 1 [.string (K k), .int .i64 U, .int .i64 (J k * UU), .int .i64 (UU)] rfl rfl ?c1 ?c2 ?c3 ?c4 ?c5 ?_))
      case c1 =>
        intro j u hj
        match j, hj with
        | 0, hj => simp at hj; subst hj; simpa [Addr.add] using HN4.out.c0
        | 1, hj => simp at hj; subst hj; simpa [Addr.add] using HN4.out.c1
        | 2, hj => simp at hj; subst hj; simpa [Addr.add] using HN4.out.c2
        | 3, hj => simp at hj; subst hj; simpa [Addr.add] using HN4.out.c3
      case c2 => intro u hu; simp at hu; rcases hu with rfl | rfl | rfl | rfl <;> rfl
      case c3 => unfold maxLen; omega
      case c4 => omega
      case c5 => simp; omega
      intro v' w4 hown' hgrow hnil
      obtain ⟨g, cap, rfl, hg1, hg2⟩ := World.ownsRow.form hown' (by omega)
      have far : ∀ q, (Value.slice vs vl vc).ownBlock = some q → w1.heap.size + 1 ≤ q := fun q hq => (hown.lt q hq).1
      have R1 : w4.ownsRow (w1.heap.size + 1) 76 4 (.slice (some ⟨g, 0, none⟩) (k + 1) cap) (k + 1) (cellsS (spotsL K T J r (k + 1))) := by rw [HSP.out]; exact hown'
      have ne6 : some w1.heap.size ≠ (Value.slice vs vl vc).ownBlock := fun e => by have := far _ e.symm; omega
      have ne4 : some w.heap.size ≠ (Value.slice vs vl vc).ownBlock := fun e => by have := far _ e.symm; omega
      have V6 := (V6z.out.alloc (.cells #[.string (K k), .int .i64 U, .int .i64 (J k * UU), .int .i64 (UU)] 76)).grown hgrow ne6
      have HV6 : Hid (C3 _ _ _ _ _) := V6.set0 (.slice (some ⟨g, 0, none⟩) (k + 1) cap)
      have HV4 : Hid (C3 _ _ _ _ _) := ((V4z.out.alloc (.cells #[.string (K k), .int .i64 U, .int .i64 (J k * UU), .int .i64 (UU)] 76)).grown hgrow ne4).but (p := w1.heap.size) 0 (.slice (some ⟨g, 0, none⟩) (k + 1) cap) (by omega)
      have HR2 : Hid (_) := owns_but R1 w1.heap.size 0 (.slice (some ⟨g, 0, none⟩) (k + 1) cap) (by omega)
      have HB4 : Hid (Below w.heap.size w w4) := (HBz.out.alloc HBz.out.size _).grown hgrow (by have := HBz.out.size; simp; omega) (fun q hq => by have := far q hq; omega)
      obtain ⟨x0, x1, x2, y0, y1, y2, _⟩ := V6
      clear hown' hgrow hown hnil R1 far b0 b1 b2
      go_wp2
      exact ⟨⟨k + 1, _, by omega, by go_num, by rw [HE.out], by rw [HLt.out]; exact HV6.out, HR2.out, HV4.out, HB4.out.setCell (by show w.heap.size ≤ w1.heap.size; omega) _⟩, by simp [intOf]; omega⟩
    · have hkk : k = n := by omega
      subst hkk
      have e0 := eb k (Nat.le_refl _) n12
      have ea : alM T J r k = alF T J r k := by
        obtain ⟨q, rfl⟩ : ∃ q, k = q + 1 := ⟨k - 1, by omega⟩
        exact alM_eq K T J r hr (q + 1) hall q (by omega)
      rw [ea] at Y6
      have a1 := e0.2.2.1 (by omega)
      have mb := many_bounds (alF T J r k) r (by omega) (by omega)
      have hmy : many (alF T J r k) r = if r = 2 then up (alF T J r k) 16 else alF T J r k := rfl
      have HM : Hid (∀ w, Calls Try.prog 51 #[.int .i64 (alF T J r k), .int .i64 16] w fun e w' => e = .returned (.int .i64 (up (alF T J r k) 16)) ∧ w' = w) := fun w => up51 _ 16 w (by omega) (by omega) (by omega) (by omega)
      have HU : Hid (∀ w, Calls Try.prog 51 #[.int .i64 (endF T J r k), .int .i64 (layAl T J r k)] w fun e w' => e = .returned (.int .i64 (laySz T J r k)) ∧ w' = w) := fun w => up51 _ _ w (by omega) (by omega) (by unfold layAl; omega) (by unfold layAl; omega)
      have hAL : layAl T J r k = many (alF T J r k) r := rfl
      rw [hmy] at hAL
      clear mb hmy ea
      generalize layAl T J r k = AL at *
      generalize laySz T J r k = SZ at *
      generalize up (alF T J r k) 16 = UA at *
      generalize alF T J r k = AF at *
      have hown' : wr.ownsRow (w1.heap.size + 1) 76 4 (.slice vs vl vc) (spotsL K T J r k).length (cellsS (spotsL K T J r k)) := by rw [spotsL_len]; exact hown
      have lt1 := Y6.hi
      by_cases h2 : r = 2
      · rw [if_pos h2] at hAL
        subst h2
        have gl := hAL.symm
        subst gl
        clear hAL
        have Y6a := Y6.set2 (.int .i64 UA)
        have Y6b := Y6a.set1 (.int .i64 SZ)
        have Y4b := (Y4.but (p := w1.heap.size) 2 (.int .i64 UA) (by omega)).but (p := w1.heap.size) 1 (.int .i64 SZ) (by omega)
        have HO : Hid (_) := owns_but (owns_but (owns_but (owns_but (owns_but hown' w1.heap.size 2 (.int .i64 UA) (by omega)) w1.heap.size 1 (.int .i64 SZ) (by omega)) w.heap.size 0 (.slice vs vl vc) (by omega)) w.heap.size 1 (.int .i64 SZ) (by omega)) w.heap.size 2 (.int .i64 UA) (by omega)
        obtain ⟨c0, c1, c2, f0, f1, f2, _⟩ := Y6
        obtain ⟨d0, d1, d2, g0, g1, g2, _⟩ := Y6a
        obtain ⟨k0, k1, k2, h0, h1, h2, _⟩ := Y6b
        obtain ⟨x0, x1, x2, y0, y1, y2, _⟩ := Y4b
        obtain ⟨r0, r1, r2⟩ := put3 (.slice vs vl vc) (.int .i64 SZ) (.int .i64 UA) x0 x1 x2
        clear Y4 hown eb
        go_wp2_with (go_at_call 51; first | (with_reducible refine (HM.out _).mono ?_; rintro e w' ⟨rfl, hw⟩; subst w') | (with_reducible refine (HU.out _).mono ?_; rintro e w' ⟨rfl, hw⟩; subst w'))
        exact bodyPost_ret (v := .tuple #[.agg #[.slice vs vl vc, .int .i64 SZ, .int .i64 UA], .bool true]) (by simp [results, Try.results16, go_sem, r0, r1, r2]) rfl ⟨_, rfl, rowvS_of HO.out, fun g hg => by have := (hown'.lt g hg).1; omega, Below.setCell (Below.setCell (Below.setCell (Below.setCell (Below.setCell B (by show w.heap.size ≤ w1.heap.size; omega) _) (by show w.heap.size ≤ w1.heap.size; omega) _) (by simp) _) (by simp) _) (by simp) _⟩
      · rw [if_neg h2] at hAL
        have h2' : (r == 2) = false := by simpa using h2
        have gl := hAL.symm
        subst gl
        clear hAL
        have Y6b := Y6.set1 (.int .i64 SZ)
        have Y4b := Y4.but (p := w1.heap.size) 1 (.int .i64 SZ) (by omega)
        have HO : Hid (_) := owns_but (owns_but (owns_but (owns_but hown' w1.heap.size 1 (.int .i64 SZ) (by omega)) w.heap.size 0 (.slice vs vl vc) (by omega)) w.heap.size 1 (.int .i64 SZ) (by omega)) w.heap.size 2 (.int .i64 AF) (by omega)
        obtain ⟨c0, c1, c2, f0, f1, f2, _⟩ := Y6
        obtain ⟨k0, k1, k2, h0, h1, h2, _⟩ := Y6b
        obtain ⟨x0, x1, x2, y0, y1, y2, _⟩ := Y4b
        obtain ⟨r0, r1, r2⟩ := put3 (.slice vs vl vc) (.int .i64 SZ) (.int .i64 AF) x0 x1 x2
        clear Y4 hown eb
        go_wp2_with (go_at_call 51; (with_reducible refine (HU.out _).mono ?_); rintro e w' ⟨rfl, hw⟩; subst w')
        exact bodyPost_ret (v := .tuple #[.agg #[.slice vs vl vc, .int .i64 SZ, .int .i64 AF], .bool true]) (by simp [results, Try.results16, go_sem, r0, r1, r2]) rfl ⟨_, rfl, rowvS_of HO.out, fun g hg => by have := (hown'.lt g hg).1; omega, Below.setCell (Below.setCell (Below.setCell (Below.setCell B (by show w.heap.size ≤ w1.heap.size; omega) _) (by simp) _) (by simp) _) (by simp) _⟩
end Go.Proofs.Yteakeaclpcgopaa
