/- The model's l12Moves: what reads copies reads that of which they are copies. -/
import Derived.Test.YtcgapochcahknaaDoorMvk
import Derived.Test.YtcgapochcahknaaDoorUnl
import Derived.Test.YtcgapochcahknaaDoorCpm
import Derived.Deep.Cut
import Derived.Deep.DeepCutAuto
import Derived.Deep.CutBlock
namespace Go.Proofs.YtcgapochcahknaaDoor
open Go.ChangeShapes Go.WideShapes Go.ChangeAt Go.RowKit
set_option linter.unusedVariables false
/-- What the model's loop leaves of the copies. -/
def mgF (F : Nat → Int) (d : Int) (r : Nat) : Int := if F r = d then (r : Int) else F r
theorem mgF_fg (F : Nat → Int) (d : Int) (d0 : 0 ≤ d) (r : Nat) : (if r = d.toNat then d else mgF F d r) = fgF F d r := by
  unfold mgF fgF
  by_cases e : r = d.toNat
  · rw [if_pos e, if_pos (Or.inl e)]; omega
  · rw [if_neg e]
    by_cases e2 : F r = d
    · rw [if_pos e2, if_pos (Or.inr e2)]
    · rw [if_neg e2, if_neg (by omega)]
/-- The word in the instruction's box, behind W. -/
structure Sy (q : Nat) (x : Int) (W v : World) : Prop where
  c5 : v.cell? ⟨q, 5, none⟩ = some (.int .u32 x)
  below : Below W.heap.size W v
theorem Sy.next {q : Nat} {x : Int} {W v v' : World} (h : Sy q x W v) (k : Below v.heap.size v v') : Sy q x W v' := ⟨cell_next h.c5 k, h.below.trans (k.mono h.below.size)⟩
theorem bg_zero (c : Cd) : c.bg 0 = true := by
  unfold Cd.bg
  rw [bgF_is]
  rfl
set_option maxRecDepth 100000 in
set_option maxHeartbeats 16000000 in
theorem moves39 (n a cap : Nat) (c : Cd) (K : Ok c) (w : World) (hn : c.n = n) (R : RowI w a n c.O c.D c.A c.B c.C c.X) : Calls Tryd.prog 34 #[.slice (some ⟨a, 0, none⟩) n cap] w fun e w' => ∃ g cp, e = .returned (.slice (some ⟨g, 0, none⟩) n cp) ∧ w.heap.size ≤ g ∧ RowI w' g n c.mv.O c.mv.D c.mv.A c.mv.B c.mv.C c.mv.X ∧ Below w.heap.size w w' := by
  obtain ⟨i3, hi3, hz30, hz31, hz32⟩ := info_parts info3
  have n0 : 1 ≤ n := by rw [← hn]; exact K.n0
  have n1 : n ≤ 600 := by rw [← hn]; exact K.n1
  have h33 := copy32 n a cap c.O c.D c.A c.B c.C c.X w R n0 n1
  have HR : Hid (RowI w a n c.O c.D c.A c.B c.C c.X) := R
  have HK : Hid (Ok c) := K
  have HN : Hid (c.n = n) := hn
  have H57 : Hid (∀ v, Below w.heap.size w v → Calls Tryd.prog 59 #[.slice (some ⟨a, 0, none⟩) n cap] v fun e w' => e = .returned (.slice (some ⟨v.heap.size, 0, none⟩) (n + 1) (n + 1)) ∧ Own w' v.heap.size (n + 1) (fun i => .bool (c.bg i)) ∧ Below v.heap.size v w') := fun v b => by
    have h := begins54 n a cap c.O c.D c.A c.B c.C c.X v (R.next b) n1 (fun k hk t ht => by
      have hT := K.tgs k (by rw [hn]; exact hk)
      rw [hn] at hT
      unfold tgL at ht
      split at ht
      · rename_i e
        have := hT.1 e
        have : t = c.A k := by simpa using ht
        omega
      · split at ht
        · rename_i e
          have := hT.2 e
          have : t = c.B k ∨ t = c.C k := by simpa using ht
          omega
        · cases ht)
    have e : bgF c.O c.A c.B c.C n = c.bg := by unfold Cd.bg; rw [hn]
    rw [e] at h
    exact h
  clear R K hn
  go_enter Tryd.func34, Tryd.ntmps34
  go_wp2_with (first | (go_at_call 58; refine h33.mono ?_; rintro e w1 ⟨g, cp, rfl, hg, R1, B1⟩) | (go_at_call 59; refine (H57.out w1 B1).mono ?_; rintro e w2 ⟨rfl, O2, B2⟩) | (at_make; refine wpList_make_full _ rfl _ _ 45 rfl w2.heap.size 3 i3 (.int .i64 0) 1 Tryd.underlying45 hi3 hz30 hz31 .i64 .i64 _ _ 400 rfl rfl rfl rfl ?_ ?_ ?_ ?_))
  · rw [hz32]; omega
  · unfold maxLen; omega
  · exact Nat.le_refl _
  intro w3 hown hgrow
  obtain ⟨qb, hqb⟩ : ∃ qb, w1.heap.size = qb := ⟨_, rfl⟩
  obtain ⟨qf, hqf⟩ : ∃ qf, w2.heap.size = qf := ⟨_, rfl⟩
  have B3 : Below w2.heap.size w2 w3 := ⟨hgrow.os, hgrow.tape, hgrow.output, hgrow.size, fun k hk => hgrow.block k hk (by simp)⟩
  have O3 : Hid (Own w3 qf 400 (fun r => .int .i64 (c.fr c.bg 0 r))) := by
    show Own _ _ _ _
    rw [← hqf]
    exact (own_made (by rw [Nat.mul_one]; exact hown) : Own w3 w2.heap.size 400 (fun i => .int .i64 0))
  have S3 : Hid (Own w3 qb (n + 1) (fun i => .bool (c.bg i))) := by
    show Own _ _ _ _
    rw [← hqb]
    exact O2.next B3
  have R3 : Hid (RowI w3 g n c.O c.D (fun i => if i < 0 then c.mv.A i else c.A i) (fun i => if i < 0 then c.mv.B i else c.B i) (fun i => if i < 0 then c.mv.C i else c.C i) c.X) := ((R1.next B2).next B3).mono (Nat.le_refl _) (fun i hi => rfl) (fun i hi => rfl) (fun i hi => by rw [if_neg (by omega)]) (fun i hi => by rw [if_neg (by omega)]) (fun i hi => by rw [if_neg (by omega)]) (fun i hi => rfl)
  have HB3 : Hid (Below w.heap.size w w3) := by
    have h1 := B1.trans (B2.mono B1.size)
    exact h1.trans (B3.mono h1.size)
  have HQ : Hid (w.heap.size ≤ g ∧ g < qb ∧ qb < qf) := ⟨hg, by have := R1.hi; omega, by have := O2.hi; omega⟩
  rw [hqb, hqf]
  clear hown hgrow hqb hqf h33 H57 B1 B2 B3 O2 R1 hg
  go_wp2
  go_loopw [19] (fun i wx => ∃ k : Nat, k ≤ n ∧ i = .int .i64 k ∧ Hid (RowI wx g n c.O c.D (fun i => if i < k then c.mv.A i else c.A i) (fun i => if i < k then c.mv.B i else c.B i) (fun i => if i < k then c.mv.C i else c.C i) c.X) ∧ Hid (Own wx qf 400 (fun r => .int .i64 (c.fr c.bg k r))) ∧ Hid (Own wx qb (n + 1) (fun i => .bool (c.bg i))) ∧ Hid (Below w.heap.size w wx)) (fun i _ => n - (intOf i).toNat)
  case atStart => exact ⟨0, by omega, rfl, R3, O3, S3, HB3⟩
  case round =>
    obtain ⟨k, hk, rfl, RJ, OJ, SJ, BJ⟩ := hrel
    clear R3 O3 S3 HB3
    by_cases hkn : k < n
    · have i1 : (k : Int) < (n : Int) := by omega
      have i0 : (0 : Int) ≤ (k : Int) := by omega
      have i2 : (k : Int) < ((n + 1 : Nat) : Int) := by omega
      have hkc : k < c.n := by rw [HN.out]; exact hkn
      have sk := SJ.out.cell k (by omega)
      have HFb : Hid (c.fb c.bg k = if c.bg k then (fun (r : Nat) => (r : Int)) else c.fr c.bg k) := rfl
      have HB0 : Hid (k = 0 → c.bg k = true) := fun e => by rw [e]; exact bg_zero c
      go_upto_region 7 with fail
      obtain ⟨U, rfl⟩ : ∃ U, U = wr := ⟨_, rfl⟩
      go_cut [29] (fun s wx => s = .bool (c.bg k) ∧ wx = U)
      case first =>
        by_cases e0 : k = 0
        · have e1 : ((k : Int) == 0) = true := by simp [e0]
          have HBk : Hid (c.bg k = true) := HB0.out e0
          clear e0 HB0
          go_wp2
          go_meet
          case rel => exact ⟨by rw [HBk.out], rfl⟩
        · have e1 : ((k : Int) == 0) = false := by simp [e0]
          clear e0 HB0
          go_wp2
          go_meet
          case rel => exact ⟨rfl, rfl⟩
      case rest =>
        obtain ⟨rfl, rfl⟩ := hcut
        go_upto_if 29 with fail
        obtain ⟨U, rfl⟩ : ∃ U, U = wc := ⟨_, rfl⟩
        have LF : Hid (qf < U.heap.size) := OJ.out.hi
        go_cut [] (fun wx => Hid (Own wx qf 400 (fun r => .int .i64 (c.fb c.bg k r))) ∧ Hid (Only qf U wx))
        case first =>
          cases hb : c.bg k
          · have HO : Hid (Own U qf 400 (fun r => .int .i64 (c.fb c.bg k r))) := by show Own _ _ _ _; rw [HFb.out, hb]; exact OJ.out
            clear OJ
            go_wp2
            go_meet
            case rel => exact ⟨HO, Only.refl _ _⟩
          · have HO : Hid (∀ v, Own v qf 400 (fun r => .int .i64 (r : Int)) → Own v qf 400 (fun r => .int .i64 (c.fb c.bg k r))) := fun v o => by rw [HFb.out, hb]; exact o
            have J0 : Hid (Own U qf 400 (fun r => .int .i64 (if r < 0 then (r : Int) else c.fr c.bg k r))) := OJ.out.mono (Nat.le_refl _) (fun i hi => by rw [if_neg (by omega)])
            clear OJ hb
            go_wp2
            go_loopw [32] (fun i wx => ∃ m : Nat, m ≤ 400 ∧ i = .int .i64 m ∧ Hid (Own wx qf 400 (fun r => .int .i64 (if r < m then (r : Int) else c.fr c.bg k r))) ∧ Hid (Only qf U wx)) (fun i _ => 400 - (intOf i).toNat)
            case atStart => exact ⟨0, by omega, rfl, J0, Only.refl _ _⟩
            case round =>
              obtain ⟨m, hm, rfl, OM, KM⟩ := hrel
              clear J0
              by_cases hm4 : m < 400
              · have m1 : (m : Int) < 400 := by omega
                have m1' : (m : Int) < ((400 : Nat) : Int) := by omega
                have cm := OM.out.cell m hm4
                have fm := OM.out.free m
                rw [if_neg (Nat.lt_irrefl m)] at cm
                have OM2 : Hid (Own (wr.setCell ⟨qf, m, none⟩ (.int .i64 (m : Int))) qf 400 (fun r => .int .i64 (if r < m + 1 then (r : Int) else c.fr c.bg k r))) := OM.out.set m _ hm4 (fun i hi => by
                  by_cases e : i = m
                  · subst e; rw [if_pos (by omega), if_pos rfl]
                  · rw [if_neg e]
                    by_cases e2 : i < m
                    · rw [if_pos e2, if_pos (by omega)]
                    · rw [if_neg e2, if_neg (by omega)])
                have KM2 : Hid (Only qf U (wr.setCell ⟨qf, m, none⟩ (.int .i64 (m : Int)))) := KM.out.setCell _ _
                clear OM KM
                go_wp2
                go_roundw
                case rel => exact ⟨m + 1, by omega, by go_num, OM2, KM2⟩
                case measure => simp [intOf]; omega
              · obtain rfl : m = 400 := by omega
                have m1 : ¬ ((400 : Nat) : Int) < 400 := by omega
                have OE : Hid (Own wr qf 400 (fun r => .int .i64 (c.fb c.bg k r))) := HO.out _ (OM.out.mono (Nat.le_refl _) (fun i hi => by rw [if_pos hi]))
                clear OM
                go_wp2
                go_meet
                case rel => exact ⟨OE, KM⟩
        case rest =>
          obtain ⟨OF, KF⟩ := hcut
          have RF : Hid (RowI wc g n c.O c.D (fun i => if i < k then c.mv.A i else c.A i) (fun i => if i < k then c.mv.B i else c.B i) (fun i => if i < k then c.mv.C i else c.C i) c.X) := RJ.out.grown (grown_only KF.out) (by intro e; injection e with e; have := HQ.out; omega)
          have SF : Hid (Own wc qb (n + 1) (fun i => .bool (c.bg i))) := SJ.out.but KF.out (by have := HQ.out; omega)
          have BF : Hid (Below w.heap.size w wc) := BJ.out.trans (KF.out.below (by have := HQ.out; omega) BJ.out.size)
          have hfr : Hid (c.fr c.bg (k + 1) = mvS (c.fb c.bg k) (c.O k) (c.D k) (c.mv.A k)) := rfl
          have hA : Hid (c.mv.A k = mvV (c.fb c.bg k) (kN (c.O k) (c.X k)) 0 (c.A k)) := rfl
          have hB : Hid (c.mv.B k = mvV (c.fb c.bg k) (kN (c.O k) (c.X k)) 1 (c.B k)) := rfl
          have hC : Hid (c.mv.C k = mvV (c.fb c.bg k) (kN (c.O k) (c.X k)) 2 (c.C k)) := rfl
          clear OJ SJ RJ BJ KF HFb HB0 sk LF
          generalize c.fb c.bg k = F at OF hfr hA hB hC
          have c0 := RF.out.c0 k hkn
          have c1 := RF.out.c1 k hkn
          have c2 := RF.out.c2 k hkn
          have c3 := RF.out.c3 k hkn
          have c4 := RF.out.c4 k hkn
          have c5 := RF.out.c5 k hkn
          rw [if_neg (Nat.lt_irrefl k)] at c2 c3 c4
          have HPut : Hid (∀ (v : World), RowI v g n c.O c.D (fun i => if i < k then c.mv.A i else c.A i) (fun i => if i < k then c.mv.B i else c.B i) (fun i => if i < k then c.mv.C i else c.C i) c.X → RowI ((((((v.setCell ⟨g, k * 6, none⟩ (.int .i64 (c.O k))).setCell ⟨g, k * 6 + 1, none⟩ (.int .i64 (c.D k))).setCell ⟨g, k * 6 + 2, none⟩ (.int .i64 (c.mv.A k))).setCell ⟨g, k * 6 + 3, none⟩ (.int .i64 (c.mv.B k))).setCell ⟨g, k * 6 + 4, none⟩ (.int .i64 (c.mv.C k))).setCell ⟨g, k * 6 + 5, none⟩ (.int .u32 (c.X k))) g n c.O c.D (fun i => if i < k + 1 then c.mv.A i else c.A i) (fun i => if i < k + 1 then c.mv.B i else c.B i) (fun i => if i < k + 1 then c.mv.C i else c.C i) c.X) := fun v r => by
            refine ((((((r.set0 k _).set1 k _).set2 k _).set3 k _).set4 k _).set5 k _).mono (Nat.le_refl _) (fun i hi => ?_) (fun i hi => ?_) (fun i hi => up_to k i) (fun i hi => up_to k i) (fun i hi => up_to k i) (fun i hi => ?_)
            · by_cases e : i = k
              · subst e; rw [if_pos rfl]
              · rw [if_neg e]
            · by_cases e : i = k
              · subst e; rw [if_pos rfl]
              · rw [if_neg e]
            · by_cases e : i = k
              · subst e; rw [if_pos rfl]
              · rw [if_neg e]
          obtain ⟨q8, hq8⟩ : ∃ q8, wc.heap.size = q8 := ⟨_, rfl⟩
          obtain ⟨V, hV⟩ : ∃ V, wc.alloc (.cells #[.int .i64 (c.O k), .int .i64 (c.D k), .int .i64 (c.A k), .int .i64 (c.B k), .int .i64 (c.C k), .int .u32 (c.X k)] 35) = V := ⟨_, rfl⟩
          have BA : Below wc.heap.size wc V := by rw [← hV]; exact (Below.refl _ _).alloc (Nat.le_refl _) _
          have OI : Hid (Own V q8 6 (insV (c.O k) (c.D k) (c.A k) (c.B k) (c.C k) (c.X k))) := by
            have h := own_arr wc (insV (c.O k) (c.D k) (c.A k) (c.B k) (c.C k) (c.X k)) 6 #[.int .i64 (c.O k), .int .i64 (c.D k), .int .i64 (c.A k), .int .i64 (c.B k), .int .i64 (c.C k), .int .u32 (c.X k)] 35 q8 hq8 rfl
            rw [hV] at h
            exact h
          have HQ8 : Hid (qf < q8) := by have := OF.out.hi; show _ < _; omega
          have OV : Hid (Own V qf 400 (fun r => .int .i64 (F r))) := OF.out.next BA
          have RV : Hid (RowI V g n c.O c.D (fun i => if i < k then c.mv.A i else c.A i) (fun i => if i < k then c.mv.B i else c.B i) (fun i => if i < k then c.mv.C i else c.C i) c.X) := RF.out.next BA
          have SV : Hid (Own V qb (n + 1) (fun i => .bool (c.bg i))) := SF.out.next BA
          have BV : Hid (Below w.heap.size w V) := BF.out.trans (BA.mono BF.out.size)
          have d0 : V.cell? ⟨q8, 0, none⟩ = some (.int .i64 (c.O k)) := OI.out.cell 0 (by omega)
          clear OF RF SF BF BA
          go_upto_block 4 with fail
          obtain ⟨hop, hcl, hwd, hrg, hd0, hd1⟩ : (1 ≤ c.O k ∧ c.O k ≤ 13) ∧ (c.O k = 4 → 1 ≤ ar (calW (c.X k))) ∧ (0 ≤ c.X k ∧ c.X k < 4294967296) ∧ (∀ y, y ∈ opsL (c.O k) (c.A k) (c.B k) (c.C k) (c.X k) → 0 ≤ y ∧ y < 400) ∧ 0 ≤ c.D k ∧ c.D k < 400 := ⟨HK.out.op k hkc, HK.out.call k hkc, HK.out.wd k hkc, HK.out.regs k hkc, HK.out.d k hkc⟩
          generalize c.mv.A k = ma at hfr hA HPut
          generalize c.mv.B k = mb at hB HPut
          generalize c.mv.C k = mc at hC HPut
          generalize c.O k = o at *
          generalize c.D k = d at *
          generalize c.A k = a' at *
          generalize c.B k = b' at *
          generalize c.C k = c' at *
          generalize c.X k = x at *
          clear hV hq8 c0 c1 c2 c3 c4 c5
          go_cut [] (fun wx => Hid (Own wx q8 6 (insV o d ma mb mc x)) ∧ Hid (Only q8 V wx))
          case first =>
            have HOP := op_in o hop
            have d2 : V.cell? ⟨q8, 2, none⟩ = some (.int .i64 a') := OI.out.cell 2 (by omega)
            have f2 := OI.out.free 2
            clear hop RV SV BV HPut
            rcases HOP with rfl | rfl | rfl | rfl | rfl | rfl | rfl | rfl | rfl | rfl | rfl | rfl | rfl
            · have hk : kN 1 x = 0 := by simp [kN, opsL]
              obtain rfl : ma = a' := by have := hA.out; rw [hk] at this; exact this
              obtain rfl : mb = b' := by have := hB.out; rw [hk] at this; exact this
              obtain rfl : mc = c' := by have := hC.out; rw [hk] at this; exact this
              clear hk
              go_wp2
              go_meet
              case rel => exact ⟨OI, Only.refl _ _⟩
            · have hk : kN 2 x = 1 := by simp [kN, opsL]
              have hmA : ma = F a'.toNat := by have := hA.out; rw [hk] at this; exact this
              obtain rfl : mb = b' := by have := hB.out; rw [hk] at this; exact this
              obtain rfl : mc = c' := by have := hC.out; rw [hk] at this; exact this
              have ra := hrg a' (by rw [opsL_take, hk]; simp)
              have ra4 : a' < ((400 : Nat) : Int) := by omega
              have ca := OV.out.cell a'.toNat (by omega)
              rw [← hmA] at ca
              have O2 : Hid (Own (V.setCell ⟨q8, 2, none⟩ (.int .i64 ma)) q8 6 (insV 2 d ma mb mc x)) := OI.out.set 2 _ (by omega) (fun i hi => by
                rcases (by omega : i = 0 ∨ i = 1 ∨ i = 2 ∨ i = 3 ∨ i = 4 ∨ i = 5) with rfl | rfl | rfl | rfl | rfl | rfl <;> rfl)
              have K2 : Hid (Only q8 V (V.setCell ⟨q8, 2, none⟩ (.int .i64 ma))) := (Only.refl _ _).setCell _ _
              clear hk hmA OI OV
              go_wp2
              go_meet
              case rel => exact ⟨O2, K2⟩
            · have hk : kN 3 x = 2 := by simp [kN, opsL]
              have hmA : ma = F a'.toNat := by have := hA.out; rw [hk] at this; exact this
              have hmB : mb = F b'.toNat := by have := hB.out; rw [hk] at this; exact this
              obtain rfl : mc = c' := by have := hC.out; rw [hk] at this; exact this
              have ra := hrg a' (by rw [opsL_take, hk]; simp)
              have rb := hrg b' (by rw [opsL_take, hk]; simp)
              have ra4 : a' < ((400 : Nat) : Int) := by omega
              have rb4 : b' < ((400 : Nat) : Int) := by omega
              have ca := OV.out.cell a'.toNat (by omega)
              rw [← hmA] at ca
              have K1 : Only q8 V (V.setCell ⟨q8, 2, none⟩ (.int .i64 ma)) := (Only.refl _ _).setCell _ _
              have cb := only_cell K1 (OV.out.cell b'.toNat (by omega)) (by have := HQ8.out; omega)
              rw [← hmB] at cb
              have O1 : Own (V.setCell ⟨q8, 2, none⟩ (.int .i64 ma)) q8 6 (insV 3 d ma b' mc x) := OI.out.set 2 _ (by omega) (fun i hi => by
                rcases (by omega : i = 0 ∨ i = 1 ∨ i = 2 ∨ i = 3 ∨ i = 4 ∨ i = 5) with rfl | rfl | rfl | rfl | rfl | rfl <;> rfl)
              have O2 : Hid (Own ((V.setCell ⟨q8, 2, none⟩ (.int .i64 ma)).setCell ⟨q8, 3, none⟩ (.int .i64 mb)) q8 6 (insV 3 d ma mb mc x)) := O1.set 3 _ (by omega) (fun i hi => by
                rcases (by omega : i = 0 ∨ i = 1 ∨ i = 2 ∨ i = 3 ∨ i = 4 ∨ i = 5) with rfl | rfl | rfl | rfl | rfl | rfl <;> rfl)
              have K2 : Hid (Only q8 V ((V.setCell ⟨q8, 2, none⟩ (.int .i64 ma)).setCell ⟨q8, 3, none⟩ (.int .i64 mb))) := K1.setCell _ _
              have d3 : (V.setCell ⟨q8, 2, none⟩ (.int .i64 ma)).cell? ⟨q8, 3, none⟩ = some (.int .i64 b') := O1.cell 3 (by omega)
              have f3 := O1.free 3
              clear hk hmA hmB OI OV K1 O1
              go_wp2
              go_meet
              case rel => exact ⟨O2, K2⟩
            · have hr := ar_le (calW x)
              have hr1 := hcl rfl
              have k11 : x / 4 < 11 := by
                rcases Nat.lt_or_ge (x / 4).toNat 11 with h | h
                · omega
                · have : ar (calW x) = -1 := by unfold calW; rw [textAt_beyond _ _ h]; exact ar_empty
                  omega
              have HSG : Hid (textAt callsL (x / 4).toNat = calW x) := rfl
              have hkk : Hid (kN 4 x = (ar (calW x)).toNat) := by
                show _ = _
                unfold kN opsL
                simp
                omega
              have h58 := fun v => arity56 (calW x) v
              have h59 := fun v => calls55 v
              have q0 : 0 ≤ x / 4 := by omega
              have t1 : x.tdiv 4 = x / 4 := Int.tdiv_eq_ediv_of_nonneg hwd.1
              have t2 : IntKind.u32.wrap (x / 4) = x / 4 := by simp [IntKind.wrap, IntKind.bits, IntKind.signed]; omega
              have d5 : V.cell? ⟨q8, 5, none⟩ = some (.int .u32 x) := OI.out.cell 5 (by omega)
              generalize calW x = cw at hr hr1 HSG hkk h58
              generalize ar cw = Rr at hr hr1 hkk h58
              go_upto_region 27 with fail
              go_cut [9] (fun s wx => s = .int .i64 Rr ∧ Hid (Below V.heap.size V wx))
              case first =>
                have h59c : ∀ v, Calls Tryd.prog 61 #[] v fun e w' => ∃ r, e = .returned r ∧ R55 (x / 4).toNat cw r v w' := fun v => (h59 v).mono fun e w' hh => by
                  obtain ⟨rfl, O5, b5⟩ := hh
                  exact ⟨_, rfl, _, rfl, (O5.cell (x / 4).toNat (by omega)).trans (congrArg (fun s => some (Value.string s)) HSG.out), b5⟩
                have hS : Sy q8 x V V.drew := ⟨d5, below_drew (Below.refl _ _)⟩
                clear OI OV hA hB hC d2 f2 hrg h59 HSG d5 hkk hfr d0 hr hr1
                refine wp_region_held_drew (S := Sy q8 x V) (by kernel_rfl) hS (fun hH => ?_)
                clear hS
                refine wpAnyH_take (i := 1) (oi := { dst := some 83, op := Op.fieldAddr 35 (Operand.tmp 8) 5, type := 0, pos := "l12_passes.go:194", after := #[], guard := none }) (v := .pointer (some ⟨q8, 5, none⟩)) rfl (by kernel_rfl) (by kernel_rfl) (by kernel_rfl) (fun _ _ _ h => h) (Or.inl ⟨by rfl, fun w0 hSw => by (obtain ⟨t5, tb⟩ := hSw; clear tb; go_simp)⟩) hH ?_
                simp only [Act.put, List.setIfInBounds_toArray, List.set_cons_zero, List.set_cons_succ]
                refine wpAnyH_take (i := 2) (oi := { dst := some 84, op := Op.load 31 (Operand.tmp 83), type := 31, pos := "l12_passes.go:194", after := #[{ on := 1, ground := Ground.data }], guard := none }) (v := .int .u32 x) rfl (by kernel_rfl) (by kernel_rfl) (by kernel_rfl) (fun _ _ _ h => h) (Or.inl ⟨by rfl, fun w0 hSw => by (obtain ⟨t5, tb⟩ := hSw; clear tb; go_simp)⟩) hH ?_
                simp only [Act.put, List.setIfInBounds_toArray, List.set_cons_zero, List.set_cons_succ]
                refine wpAnyH_take (i := 3) (oi := { dst := some 85, op := Op.binOp BinOp.quo 31 (Operand.tmp 84) (Operand.const (Value.int IntKind.u32 4)) 31, type := 31, pos := "l12_passes.go:194", after := #[{ on := 2, ground := Ground.data }], guard := none }) (v := .int .u32 (x / 4)) rfl (by kernel_rfl) (by kernel_rfl) (by kernel_rfl) (fun _ _ _ h => h) (Or.inl ⟨by rfl, fun w0 hSw => by (obtain ⟨t5, tb⟩ := hSw; clear tb; go_simp)⟩) hH ?_
                simp only [Act.put, List.setIfInBounds_toArray, List.set_cons_zero, List.set_cons_succ]
                refine wpAnyH_ready (rs := [0]) (by kernel_rfl) (by simp) ?_
                refine (AllReadyH.cons (o := { dst := some 82, op := Op.call { callee := Callee.value (Operand.func 61), args := #[], argTypes := #[] }, type := 81, pos := "l12_passes.go:194", after := #[], guard := none }) rfl (fun K hK => ?_) AllReadyH.nil)
                refine step_callC 61 #[] (R55 (x / 4).toNat cw) (by rfl) (by go_simp) (h59c _) ?_
                rintro v5 w5 ⟨g5, rfl, k0, b5⟩
                simp only [Act.put, List.setIfInBounds_toArray, List.set_cons_zero, List.set_cons_succ]
                refine hK.out _ _ (hH.next b5) (fun hH' => ?_)
                clear hK K
                refine wpAnyH_more (S' := fun v => Sy q8 x V v ∧ v.cell? ⟨g5, (x / 4).toNat, none⟩ = some (.string cw)) (fun _ h => h.1) _ _ _ _ ?_
                replace hH : Sy q8 x V w5 ∧ w5.cell? ⟨g5, (x / 4).toNat, none⟩ = some (.string cw) := ⟨hH', k0⟩
                clear hH' k0 b5
                refine wpAnyH_take (i := 4) (oi := { dst := some 86, op := Op.indexAddr 81 (Operand.tmp 82) (Operand.tmp 85), type := 0, pos := "l12_passes.go:194", after := #[{ on := 0, ground := Ground.data }, { on := 3, ground := Ground.data }], guard := none }) (v := .pointer (some ⟨g5, (x / 4).toNat, none⟩)) rfl (by kernel_rfl) (by kernel_rfl) (by kernel_rfl) (fun _ _ _ h => h) (Or.inl ⟨by rfl, fun w0 hSw => by (obtain ⟨⟨t5, tb⟩, t0⟩ := hSw; clear tb; go_simp)⟩) hH ?_
                simp only [Act.put, List.setIfInBounds_toArray, List.set_cons_zero, List.set_cons_succ]
                refine wpAnyH_take (i := 5) (oi := { dst := some 87, op := Op.load 9 (Operand.tmp 86), type := 9, pos := "l12_passes.go:194", after := #[{ on := 4, ground := Ground.data }], guard := none }) (v := .string cw) rfl (by kernel_rfl) (by kernel_rfl) (by kernel_rfl) (fun _ _ _ h => h) (Or.inl ⟨by rfl, fun w0 hSw => by (obtain ⟨⟨t5, tb⟩, t0⟩ := hSw; clear tb; go_simp)⟩) hH ?_
                simp only [Act.put, List.setIfInBounds_toArray, List.set_cons_zero, List.set_cons_succ]
                refine wpAnyH_ready (rs := [6]) (by kernel_rfl) (by simp) ?_
                refine (AllReadyH.cons (o := { dst := some 88, op := Op.call { callee := Callee.value (Operand.func 60), args := #[Operand.tmp 87], argTypes := #[9] }, type := 3, pos := "l12_passes.go:194", after := #[{ on := 5, ground := Ground.data }, { on := 0, ground := Ground.chain }], guard := none }) rfl (fun K hK => ?_) AllReadyH.nil)
                refine step_call 60 #[.string cw] (.int .i64 Rr) (by rfl) (by go_simp) (h58 _) ?_
                simp only [Act.put, List.setIfInBounds_toArray, List.set_cons_zero, List.set_cons_succ]
                refine hK.out _ _ hH (fun hH' => ?_)
                clear hK K hH'
                refine wpAnyH_take (i := 7) (oi := { dst := some 9, op := Op.assign (Operand.tmp 88), type := 3, pos := "l12_passes.go:194", after := #[{ on := 6, ground := Ground.data }, { on := 6, ground := Ground.chain }, { on := 0, ground := Ground.phase }, { on := 1, ground := Ground.phase }, { on := 2, ground := Ground.phase }, { on := 3, ground := Ground.phase }, { on := 4, ground := Ground.phase }, { on := 5, ground := Ground.phase }, { on := 6, ground := Ground.phase }], guard := none }) (v := .int .i64 Rr) rfl (by kernel_rfl) (by kernel_rfl) (by kernel_rfl) (fun _ _ _ h => h) (Or.inl ⟨by rfl, fun w0 hSw => by (obtain ⟨⟨t5, tb⟩, t0⟩ := hSw; clear tb; go_simp)⟩) hH ?_
                simp only [Act.put, List.setIfInBounds_toArray, List.set_cons_zero, List.set_cons_succ]
                refine wpAnyH_done (by kernel_rfl) ?_ _
                have HT : Hid (Below V.heap.size V w5) := hH.1.below
                clear hH
                go_wp2_with fail
                go_meet
                case rel => exact ⟨rfl, HT⟩
              case rest =>
                obtain ⟨rfl, HT⟩ := hcut
                have OI4 : Hid (Own wc q8 6 (insV 4 d a' b' c' x)) := OI.out.next HT.out
                have OV4 : Hid (Own wc qf 400 (fun r => .int .i64 (F r))) := OV.out.next HT.out
                have KV : Hid (Only q8 V wc) := Only.ofBelow HT.out
                have e2 : wc.cell? ⟨q8, 2, none⟩ = some (.int .i64 a') := OI4.out.cell 2 (by omega)
                have e2f := OI4.out.free 2
                have hOps : opsL 4 a' b' c' x = [a', b', c'].take Rr.toNat := by rw [opsL_take, hkk.out]
                rw [hOps] at hrg
                have hA2 := hA.out
                have hB2 := hB.out
                have hC2 := hC.out
                rw [hkk.out] at hA2 hB2 hC2
                clear OI OV hA hB hC d2 f2 HT h58 h59 HSG d5 hOps d0
                have hmA : ma = F a'.toNat := by rw [hA2]; unfold mvV; rw [if_pos (by omega)]
                have ra := hrg a' (by rcases (by omega : Rr = 1 ∨ Rr = 2 ∨ Rr = 3) with rfl | rfl | rfl <;> simp)
                have ra4 : a' < ((400 : Nat) : Int) := by omega
                have ca := OV4.out.cell a'.toNat (by omega)
                rw [← hmA] at ca
                have K1 : Only q8 wc (wc.setCell ⟨q8, 2, none⟩ (.int .i64 ma)) := (Only.refl _ _).setCell _ _
                have O1 : Own (wc.setCell ⟨q8, 2, none⟩ (.int .i64 ma)) q8 6 (insV 4 d ma b' c' x) := OI4.out.set 2 _ (by omega) (fun i hi => by
                  rcases (by omega : i = 0 ∨ i = 1 ∨ i = 2 ∨ i = 3 ∨ i = 4 ∨ i = 5) with rfl | rfl | rfl | rfl | rfl | rfl <;> rfl)
                have HO1 : Hid (Own (wc.setCell ⟨q8, 2, none⟩ (.int .i64 ma)) q8 6 (insV 4 d ma b' c' x)) := O1
                have HK1 : Hid (Only q8 V (wc.setCell ⟨q8, 2, none⟩ (.int .i64 ma))) := KV.out.trans K1
                rcases (by omega : Rr = 1 ∨ Rr = 2 ∨ Rr = 3) with rfl | rfl | rfl
                · obtain rfl : mb = b' := hB2
                  obtain rfl : mc = c' := hC2
                  clear hmA O1 K1 OV4 hA2 hrg hkk
                  go_wp2
                  go_meet
                  case rel => exact ⟨HO1, HK1⟩
                · have hmB : mb = F b'.toNat := hB2
                  obtain rfl : mc = c' := hC2
                  have rb := hrg b' (by simp)
                  have rb4 : b' < ((400 : Nat) : Int) := by omega
                  have cb := only_cell K1 (OV4.out.cell b'.toNat (by omega)) (by have := HQ8.out; omega)
                  rw [← hmB] at cb
                  have O2 : Hid (Own ((wc.setCell ⟨q8, 2, none⟩ (.int .i64 ma)).setCell ⟨q8, 3, none⟩ (.int .i64 mb)) q8 6 (insV 4 d ma mb mc x)) := O1.set 3 _ (by omega) (fun i hi => by
                    rcases (by omega : i = 0 ∨ i = 1 ∨ i = 2 ∨ i = 3 ∨ i = 4 ∨ i = 5) with rfl | rfl | rfl | rfl | rfl | rfl <;> rfl)
                  have K2 : Hid (Only q8 V ((wc.setCell ⟨q8, 2, none⟩ (.int .i64 ma)).setCell ⟨q8, 3, none⟩ (.int .i64 mb))) := HK1.out.setCell _ _
                  have d3 : (wc.setCell ⟨q8, 2, none⟩ (.int .i64 ma)).cell? ⟨q8, 3, none⟩ = some (.int .i64 b') := O1.cell 3 (by omega)
                  have f3 := O1.free 3
                  clear hmA hmB O1 K1 OV4 hA2 hB2 hrg hkk
                  go_wp2
                  go_meet
                  case rel => exact ⟨O2, K2⟩
                · have hmB : mb = F b'.toNat := hB2
                  have hmC : mc = F c'.toNat := hC2
                  have rb := hrg b' (by simp)
                  have rb4 : b' < ((400 : Nat) : Int) := by omega
                  have rc := hrg c' (by simp)
                  have rc4 : c' < ((400 : Nat) : Int) := by omega
                  have cb := only_cell K1 (OV4.out.cell b'.toNat (by omega)) (by have := HQ8.out; omega)
                  rw [← hmB] at cb
                  have O2 : Own ((wc.setCell ⟨q8, 2, none⟩ (.int .i64 ma)).setCell ⟨q8, 3, none⟩ (.int .i64 mb)) q8 6 (insV 4 d ma mb c' x) := O1.set 3 _ (by omega) (fun i hi => by
                    rcases (by omega : i = 0 ∨ i = 1 ∨ i = 2 ∨ i = 3 ∨ i = 4 ∨ i = 5) with rfl | rfl | rfl | rfl | rfl | rfl <;> rfl)
                  have K2 : Only q8 wc ((wc.setCell ⟨q8, 2, none⟩ (.int .i64 ma)).setCell ⟨q8, 3, none⟩ (.int .i64 mb)) := K1.setCell _ _
                  have cc := only_cell K2 (OV4.out.cell c'.toNat (by omega)) (by have := HQ8.out; omega)
                  rw [← hmC] at cc
                  have O3 : Hid (Own (((wc.setCell ⟨q8, 2, none⟩ (.int .i64 ma)).setCell ⟨q8, 3, none⟩ (.int .i64 mb)).setCell ⟨q8, 4, none⟩ (.int .i64 mc)) q8 6 (insV 4 d ma mb mc x)) := O2.set 4 _ (by omega) (fun i hi => by
                    rcases (by omega : i = 0 ∨ i = 1 ∨ i = 2 ∨ i = 3 ∨ i = 4 ∨ i = 5) with rfl | rfl | rfl | rfl | rfl | rfl <;> rfl)
                  have K3 : Hid (Only q8 V (((wc.setCell ⟨q8, 2, none⟩ (.int .i64 ma)).setCell ⟨q8, 3, none⟩ (.int .i64 mb)).setCell ⟨q8, 4, none⟩ (.int .i64 mc))) := (HK1.out.setCell _ _).setCell _ _
                  have d3 : (wc.setCell ⟨q8, 2, none⟩ (.int .i64 ma)).cell? ⟨q8, 3, none⟩ = some (.int .i64 b') := O1.cell 3 (by omega)
                  have f3 := O1.free 3
                  have d4 : ((wc.setCell ⟨q8, 2, none⟩ (.int .i64 ma)).setCell ⟨q8, 3, none⟩ (.int .i64 mb)).cell? ⟨q8, 4, none⟩ = some (.int .i64 c') := O2.cell 4 (by omega)
                  have f4 := O2.free 4
                  clear hmA hmB hmC O1 O2 K1 K2 OV4 hA2 hB2 hC2 hrg hkk
                  go_wp2
                  go_meet
                  case rel => exact ⟨O3, K3⟩
            · have hk : kN 5 x = 0 := by simp [kN, opsL]
              obtain rfl : ma = a' := by have := hA.out; rw [hk] at this; exact this
              obtain rfl : mb = b' := by have := hB.out; rw [hk] at this; exact this
              obtain rfl : mc = c' := by have := hC.out; rw [hk] at this; exact this
              clear hk
              go_wp2
              go_meet
              case rel => exact ⟨OI, Only.refl _ _⟩
            · have hk : kN 6 x = 1 := by simp [kN, opsL]
              have hmA : ma = F a'.toNat := by have := hA.out; rw [hk] at this; exact this
              obtain rfl : mb = b' := by have := hB.out; rw [hk] at this; exact this
              obtain rfl : mc = c' := by have := hC.out; rw [hk] at this; exact this
              have ra := hrg a' (by rw [opsL_take, hk]; simp)
              have ra4 : a' < ((400 : Nat) : Int) := by omega
              have ca := OV.out.cell a'.toNat (by omega)
              rw [← hmA] at ca
              have O2 : Hid (Own (V.setCell ⟨q8, 2, none⟩ (.int .i64 ma)) q8 6 (insV 6 d ma mb mc x)) := OI.out.set 2 _ (by omega) (fun i hi => by
                rcases (by omega : i = 0 ∨ i = 1 ∨ i = 2 ∨ i = 3 ∨ i = 4 ∨ i = 5) with rfl | rfl | rfl | rfl | rfl | rfl <;> rfl)
              have K2 : Hid (Only q8 V (V.setCell ⟨q8, 2, none⟩ (.int .i64 ma))) := (Only.refl _ _).setCell _ _
              clear hk hmA OI OV
              go_wp2
              go_meet
              case rel => exact ⟨O2, K2⟩
            · have hk : kN 7 x = 2 := by simp [kN, opsL]
              have hmA : ma = F a'.toNat := by have := hA.out; rw [hk] at this; exact this
              have hmB : mb = F b'.toNat := by have := hB.out; rw [hk] at this; exact this
              obtain rfl : mc = c' := by have := hC.out; rw [hk] at this; exact this
              have ra := hrg a' (by rw [opsL_take, hk]; simp)
              have rb := hrg b' (by rw [opsL_take, hk]; simp)
              have ra4 : a' < ((400 : Nat) : Int) := by omega
              have rb4 : b' < ((400 : Nat) : Int) := by omega
              have ca := OV.out.cell a'.toNat (by omega)
              rw [← hmA] at ca
              have K1 : Only q8 V (V.setCell ⟨q8, 2, none⟩ (.int .i64 ma)) := (Only.refl _ _).setCell _ _
              have cb := only_cell K1 (OV.out.cell b'.toNat (by omega)) (by have := HQ8.out; omega)
              rw [← hmB] at cb
              have O1 : Own (V.setCell ⟨q8, 2, none⟩ (.int .i64 ma)) q8 6 (insV 7 d ma b' mc x) := OI.out.set 2 _ (by omega) (fun i hi => by
                rcases (by omega : i = 0 ∨ i = 1 ∨ i = 2 ∨ i = 3 ∨ i = 4 ∨ i = 5) with rfl | rfl | rfl | rfl | rfl | rfl <;> rfl)
              have O2 : Hid (Own ((V.setCell ⟨q8, 2, none⟩ (.int .i64 ma)).setCell ⟨q8, 3, none⟩ (.int .i64 mb)) q8 6 (insV 7 d ma mb mc x)) := O1.set 3 _ (by omega) (fun i hi => by
                rcases (by omega : i = 0 ∨ i = 1 ∨ i = 2 ∨ i = 3 ∨ i = 4 ∨ i = 5) with rfl | rfl | rfl | rfl | rfl | rfl <;> rfl)
              have K2 : Hid (Only q8 V ((V.setCell ⟨q8, 2, none⟩ (.int .i64 ma)).setCell ⟨q8, 3, none⟩ (.int .i64 mb))) := K1.setCell _ _
              have d3 : (V.setCell ⟨q8, 2, none⟩ (.int .i64 ma)).cell? ⟨q8, 3, none⟩ = some (.int .i64 b') := O1.cell 3 (by omega)
              have f3 := O1.free 3
              clear hk hmA hmB OI OV K1 O1
              go_wp2
              go_meet
              case rel => exact ⟨O2, K2⟩
            · have hk : kN 8 x = 0 := by simp [kN, opsL]
              obtain rfl : ma = a' := by have := hA.out; rw [hk] at this; exact this
              obtain rfl : mb = b' := by have := hB.out; rw [hk] at this; exact this
              obtain rfl : mc = c' := by have := hC.out; rw [hk] at this; exact this
              clear hk
              go_wp2
              go_meet
              case rel => exact ⟨OI, Only.refl _ _⟩
            · have hk : kN 9 x = 1 := by simp [kN, opsL]
              have hmA : ma = F a'.toNat := by have := hA.out; rw [hk] at this; exact this
              obtain rfl : mb = b' := by have := hB.out; rw [hk] at this; exact this
              obtain rfl : mc = c' := by have := hC.out; rw [hk] at this; exact this
              have ra := hrg a' (by rw [opsL_take, hk]; simp)
              have ra4 : a' < ((400 : Nat) : Int) := by omega
              have ca := OV.out.cell a'.toNat (by omega)
              rw [← hmA] at ca
              have O2 : Hid (Own (V.setCell ⟨q8, 2, none⟩ (.int .i64 ma)) q8 6 (insV 9 d ma mb mc x)) := OI.out.set 2 _ (by omega) (fun i hi => by
                rcases (by omega : i = 0 ∨ i = 1 ∨ i = 2 ∨ i = 3 ∨ i = 4 ∨ i = 5) with rfl | rfl | rfl | rfl | rfl | rfl <;> rfl)
              have K2 : Hid (Only q8 V (V.setCell ⟨q8, 2, none⟩ (.int .i64 ma))) := (Only.refl _ _).setCell _ _
              clear hk hmA OI OV
              go_wp2
              go_meet
              case rel => exact ⟨O2, K2⟩
            · have hk : kN 10 x = 0 := by simp [kN, opsL]
              obtain rfl : ma = a' := by have := hA.out; rw [hk] at this; exact this
              obtain rfl : mb = b' := by have := hB.out; rw [hk] at this; exact this
              obtain rfl : mc = c' := by have := hC.out; rw [hk] at this; exact this
              clear hk
              go_wp2
              go_meet
              case rel => exact ⟨OI, Only.refl _ _⟩
            · have hk : kN 11 x = 0 := by simp [kN, opsL]
              obtain rfl : ma = a' := by have := hA.out; rw [hk] at this; exact this
              obtain rfl : mb = b' := by have := hB.out; rw [hk] at this; exact this
              obtain rfl : mc = c' := by have := hC.out; rw [hk] at this; exact this
              clear hk
              go_wp2
              go_meet
              case rel => exact ⟨OI, Only.refl _ _⟩
            · have hk : kN 12 x = 1 := by simp [kN, opsL]
              have hmA : ma = F a'.toNat := by have := hA.out; rw [hk] at this; exact this
              obtain rfl : mb = b' := by have := hB.out; rw [hk] at this; exact this
              obtain rfl : mc = c' := by have := hC.out; rw [hk] at this; exact this
              have ra := hrg a' (by rw [opsL_take, hk]; simp)
              have ra4 : a' < ((400 : Nat) : Int) := by omega
              have ca := OV.out.cell a'.toNat (by omega)
              rw [← hmA] at ca
              have O2 : Hid (Own (V.setCell ⟨q8, 2, none⟩ (.int .i64 ma)) q8 6 (insV 12 d ma mb mc x)) := OI.out.set 2 _ (by omega) (fun i hi => by
                rcases (by omega : i = 0 ∨ i = 1 ∨ i = 2 ∨ i = 3 ∨ i = 4 ∨ i = 5) with rfl | rfl | rfl | rfl | rfl | rfl <;> rfl)
              have K2 : Hid (Only q8 V (V.setCell ⟨q8, 2, none⟩ (.int .i64 ma))) := (Only.refl _ _).setCell _ _
              clear hk hmA OI OV
              go_wp2
              go_meet
              case rel => exact ⟨O2, K2⟩
            · have hk : kN 13 x = 1 := by simp [kN, opsL]
              have hmA : ma = F a'.toNat := by have := hA.out; rw [hk] at this; exact this
              obtain rfl : mb = b' := by have := hB.out; rw [hk] at this; exact this
              obtain rfl : mc = c' := by have := hC.out; rw [hk] at this; exact this
              have ra := hrg a' (by rw [opsL_take, hk]; simp)
              have ra4 : a' < ((400 : Nat) : Int) := by omega
              have ca := OV.out.cell a'.toNat (by omega)
              rw [← hmA] at ca
              have O2 : Hid (Own (V.setCell ⟨q8, 2, none⟩ (.int .i64 ma)) q8 6 (insV 13 d ma mb mc x)) := OI.out.set 2 _ (by omega) (fun i hi => by
                rcases (by omega : i = 0 ∨ i = 1 ∨ i = 2 ∨ i = 3 ∨ i = 4 ∨ i = 5) with rfl | rfl | rfl | rfl | rfl | rfl <;> rfl)
              have K2 : Hid (Only q8 V (V.setCell ⟨q8, 2, none⟩ (.int .i64 ma))) := (Only.refl _ _).setCell _ _
              clear hk hmA OI OV
              go_wp2
              go_meet
              case rel => exact ⟨O2, K2⟩
          case rest =>
            obtain ⟨OB, KB⟩ := hcut
            have OF : Hid (Own wc qf 400 (fun r => .int .i64 (F r))) := OV.out.but KB.out (by have := HQ8.out; omega)
            have RF : Hid (RowI wc g n c.O c.D (fun i => if i < k then c.mv.A i else c.A i) (fun i => if i < k then c.mv.B i else c.B i) (fun i => if i < k then c.mv.C i else c.C i) c.X) := RV.out.grown (grown_only KB.out) (by intro e; injection e with e; have := HQ8.out; have := HQ.out; omega)
            have SF : Hid (Own wc qb (n + 1) (fun i => .bool (c.bg i))) := SV.out.but KB.out (by have := HQ8.out; have := HQ.out; omega)
            have BF : Hid (Below w.heap.size w wc) := BV.out.trans (KB.out.below (by have := HQ8.out; have := HQ.out; omega) BV.out.size)
            obtain ⟨W9, hW9⟩ : ∃ W9, ((((((wc.setCell ⟨g, k * 6, none⟩ (.int .i64 o)).setCell ⟨g, k * 6 + 1, none⟩ (.int .i64 d)).setCell ⟨g, k * 6 + 2, none⟩ (.int .i64 ma)).setCell ⟨g, k * 6 + 3, none⟩ (.int .i64 mb)).setCell ⟨g, k * 6 + 4, none⟩ (.int .i64 mc)).setCell ⟨g, k * 6 + 5, none⟩ (.int .u32 x)) = W9 := ⟨_, rfl⟩
            have K9 : Only g wc W9 := by rw [← hW9]; exact ((((((Only.refl g wc).setCell _ _).setCell _ _).setCell _ _).setCell _ _).setCell _ _).setCell _ _
            have R9 : Hid (RowI W9 g n c.O c.D (fun i => if i < k + 1 then c.mv.A i else c.A i) (fun i => if i < k + 1 then c.mv.B i else c.B i) (fun i => if i < k + 1 then c.mv.C i else c.C i) c.X) := by
              have := HPut.out wc RF.out
              rw [hW9] at this
              exact this
            have OB9 : Hid (Own W9 q8 6 (insV o d ma mb mc x)) := OB.out.but K9 (by have := HQ8.out; have := HQ.out; omega)
            have OF9 : Hid (Own W9 qf 400 (fun r => .int .i64 (F r))) := OF.out.but K9 (by have := HQ.out; omega)
            have SF9 : Hid (Own W9 qb (n + 1) (fun i => .bool (c.bg i))) := SF.out.but K9 (by have := HQ.out; omega)
            have BF9 : Hid (Below w.heap.size w W9) := BF.out.trans (K9.below HQ.out.1 BF.out.size)
            have y0 := RF.out.c0 k hkn
            have y1 := RF.out.c1 k hkn
            have y2 := RF.out.c2 k hkn
            have y3 := RF.out.c3 k hkn
            have y4 := RF.out.c4 k hkn
            have y5 := RF.out.c5 k hkn
            have z0 := RF.out.free (k * 6)
            have z1 := RF.out.free (k * 6 + 1)
            have z2 := RF.out.free (k * 6 + 2)
            have z3 := RF.out.free (k * 6 + 3)
            have z4 := RF.out.free (k * 6 + 4)
            have z5 := RF.out.free (k * 6 + 5)
            have h54 := writes63 o d ma mb mc x W9 hop
            clear OV RV SV BV OI d0 K9 RF SF BF OF HPut hA hB hC hcl hwd hrg hop
            go_upto_region 34 with (refine wpList_load_own rfl 35 _ rfl q8 rfl 6 (insV o d ma mb mc x) _ OB.out Tryd.underlying35 rfl size40 ?_; simp only [ins6])
            (try rw [hW9])
            clear hW9 y0 y1 y2 y3 y4 y5 z0 z1 z2 z3 z4 z5 OB KB
            cases hnm : nmd o 0
            · have HS : Hid (c.fr c.bg (k + 1) = F) := by show _ = _; rw [hfr.out]; exact mvS_none hnm
              rw [hnm] at h54
              have hneg : (if false = true then d else -1) = (-1 : Int) := rfl
              rw [hneg] at h54
              clear hneg hnm
              go_wp2_with (first | (refine wpList_load_own rfl 35 _ rfl q8 rfl 6 (insV o d ma mb mc x) _ OB9.out Tryd.underlying35 rfl size40 ?_; simp only [ins6]) | (go_at_call 62; refine h54.mono ?_; rintro e w10 ⟨rfl, B10⟩))
              go_roundw
              case rel => exact ⟨k + 1, by omega, by go_num, R9.out.next B10, by rw [HS.out]; exact OF9.out.next B10, SF9.out.next B10, BF9.out.trans (B10.mono BF9.out.size)⟩
              case measure => simp [intOf]; omega
            · have HS : Hid (c.fr c.bg (k + 1) = mvS F o d ma) := hfr
              rw [hnm] at h54
              have hpos : (if true = true then d else -1) = d := rfl
              rw [hpos] at h54
              have hd4 : d < ((400 : Nat) : Int) := by omega
              clear hpos
              go_wp2_with (first | (refine wpList_load_own rfl 35 _ rfl q8 rfl 6 (insV o d ma mb mc x) _ OB9.out Tryd.underlying35 rfl size40 ?_; simp only [ins6]) | (go_at_call 62; refine h54.mono ?_; rintro e w10 ⟨rfl, B10⟩))
              have J0 : Hid (Own w10 qf 400 (fun r => .int .i64 (if r < 0 then mgF F d r else F r))) := (OF9.out.next B10).mono (Nat.le_refl _) (fun i hi => by rw [if_neg (by omega)])
              have R10 : Hid (RowI w10 g n c.O c.D (fun i => if i < k + 1 then c.mv.A i else c.A i) (fun i => if i < k + 1 then c.mv.B i else c.B i) (fun i => if i < k + 1 then c.mv.C i else c.C i) c.X) := R9.out.next B10
              have OB10 : Hid (Own w10 q8 6 (insV o d ma mb mc x)) := OB9.out.next B10
              have SF10 : Hid (Own w10 qb (n + 1) (fun i => .bool (c.bg i))) := SF9.out.next B10
              have BF10 : Hid (Below w.heap.size w w10) := BF9.out.trans (B10.mono BF9.out.size)
              clear R9 OB9 OF9 SF9 BF9 B10 h54
              go_loopw [121] (fun i wx => ∃ m : Nat, m ≤ 400 ∧ i = .int .i64 m ∧ Hid (Own wx qf 400 (fun r => .int .i64 (if r < m then mgF F d r else F r))) ∧ Hid (Only qf w10 wx)) (fun i _ => 400 - (intOf i).toNat)
              case atStart => exact ⟨0, by omega, rfl, J0, Only.refl _ _⟩
              case round =>
                obtain ⟨m, hm, rfl, OM, KM⟩ := hrel
                clear J0
                by_cases hm4 : m < 400
                · have m1 : (m : Int) < 400 := by omega
                  have m1' : (m : Int) < ((400 : Nat) : Int) := by omega
                  have cm := OM.out.cell m hm4
                  have fm := OM.out.free m
                  rw [if_neg (Nat.lt_irrefl m)] at cm
                  have HG : Hid (mgF F d m = if F m = d then (m : Int) else F m) := rfl
                  have HStep : Hid (∀ i, i ≠ m → (if i < m + 1 then mgF F d i else F i) = (if i < m then mgF F d i else F i)) := fun i hi => by
                    by_cases e : i < m
                    · rw [if_pos e, if_pos (by omega)]
                    · rw [if_neg e, if_neg (by omega)]
                  have HSame : Hid (mgF F d m = F m → Own wr qf 400 (fun r => .int .i64 (if r < m + 1 then mgF F d r else F r))) := fun h => OM.out.mono (Nat.le_refl _) (fun i hi => by
                    by_cases e : i = m
                    · subst e; rw [if_pos (by omega), if_neg (Nat.lt_irrefl i), h]
                    · rw [HStep.out i e])
                  have HPt : Hid (mgF F d m = (m : Int) → Own (wr.setCell ⟨qf, m, none⟩ (.int .i64 (m : Int))) qf 400 (fun r => .int .i64 (if r < m + 1 then mgF F d r else F r))) := fun h => OM.out.set m _ hm4 (fun i hi => by
                    by_cases e : i = m
                    · subst e; rw [if_pos (by omega), if_pos rfl, h]
                    · rw [HStep.out i e, if_neg e])
                  have KP : Hid (Only qf w10 (wr.setCell ⟨qf, m, none⟩ (.int .i64 (m : Int)))) := KM.out.setCell _ _
                  generalize mgF F d m = gm at HG HSame HPt
                  generalize F m = fm' at cm HG HSame
                  clear OM HStep
                  by_cases e2 : fm' = d
                  · have hg : gm = (m : Int) := by rw [HG.out, if_pos e2]
                    have O2 : Hid _ := HPt.out hg
                    have g2 : (fm' == d) = true := by simp [e2]
                    clear HG HSame HPt e2 hg
                    go_wp2
                    go_roundw
                    case rel => exact ⟨m + 1, by omega, by go_num, O2, KP⟩
                    case measure => simp [intOf]; omega
                  · have hg : gm = fm' := by rw [HG.out, if_neg e2]
                    have O2 : Hid _ := HSame.out hg
                    have g2 : (fm' == d) = false := by simp [e2]
                    clear HG HSame HPt e2 hg
                    go_wp2
                    go_roundw
                    case rel => exact ⟨m + 1, by omega, by go_num, O2, KM⟩
                    case measure => simp [intOf]; omega
                · obtain rfl : m = 400 := by omega
                  have m1 : ¬ ((400 : Nat) : Int) < 400 := by omega
                  have OE : Own wr qf 400 (fun r => .int .i64 (mgF F d r)) := OM.out.mono (Nat.le_refl _) (fun i hi => by rw [if_pos hi])
                  have cd := OE.cell d.toNat (by omega)
                  have fd := OE.free d.toNat
                  obtain ⟨W12, hW12⟩ : ∃ W12, wr.setCell ⟨qf, d.toNat, none⟩ (.int .i64 d) = W12 := ⟨_, rfl⟩
                  have K12 : Only qf w10 W12 := by rw [← hW12]; exact KM.out.setCell _ _
                  have O12 : Hid (Own W12 qf 400 (fun r => .int .i64 (fgF F d r))) := by
                    show Own _ _ _ _
                    rw [← hW12]
                    exact OE.set d.toNat _ (by omega) (fun r hr => by
                      rw [← mgF_fg F d hd0 r]
                      by_cases e : r = d.toNat
                      · rw [if_pos e, if_pos e]
                      · rw [if_neg e, if_neg e])
                  have OB12 := OB10.out.but K12 (by have := HQ8.out; omega)
                  have b0 : W12.cell? ⟨q8, 0, none⟩ = some (.int .i64 o) := OB12.cell 0 (by omega)
                  have b2 : W12.cell? ⟨q8, 2, none⟩ = some (.int .i64 ma) := OB12.cell 2 (by omega)
                  have R12 : Hid (RowI W12 g n c.O c.D (fun i => if i < k + 1 then c.mv.A i else c.A i) (fun i => if i < k + 1 then c.mv.B i else c.B i) (fun i => if i < k + 1 then c.mv.C i else c.C i) c.X) := R10.out.grown (grown_only K12) (by intro e; injection e with e; have := HQ.out; omega)
                  have S12 : Hid (Own W12 qb (n + 1) (fun i => .bool (c.bg i))) := SF10.out.but K12 (by have := HQ.out; omega)
                  have B12 : Hid (Below w.heap.size w W12) := BF10.out.trans (K12.below (by have := HQ.out; omega) BF10.out.size)
                  clear OM KM OE OB12 K12 R10 OB10 SF10 BF10
                  by_cases e2 : o = 2
                  · subst e2
                    by_cases e3 : ma = d
                    · have g3 : (ma != d) = false := by simp [e3]
                      have HE : Hid (Own W12 qf 400 (fun r => .int .i64 (c.fr c.bg (k + 1) r))) := by
                        show Own _ _ _ _
                        rw [HS.out]
                        refine O12.out.mono (Nat.le_refl _) (fun r hr => ?_)
                        rw [mvS_mv]
                        by_cases e : r = d.toNat
                        · rw [if_pos e, e3]; unfold fgF; rw [if_pos (Or.inl e)]; congr 1; omega
                        · rw [if_neg e]
                      clear O12 e3 HS
                      go_wp2
                      go_roundw
                      case rel => exact ⟨k + 1, by omega, by go_num, R12, HE, S12, B12⟩
                      case measure => simp [intOf]; omega
                    · have g3 : (ma != d) = true := by simp [e3]
                      have cd2 := O12.out.cell d.toNat (by omega)
                      have fd2 := O12.out.free d.toNat
                      have KZ : Only qf W12 (W12.setCell ⟨qf, d.toNat, none⟩ (.int .i64 ma)) := (Only.refl _ _).setCell _ _
                      have HE : Hid (Own (W12.setCell ⟨qf, d.toNat, none⟩ (.int .i64 ma)) qf 400 (fun r => .int .i64 (c.fr c.bg (k + 1) r))) := by
                        show Own _ _ _ _
                        rw [HS.out]
                        exact O12.out.set d.toNat _ (by omega) (fun r hr => by
                          rw [mvS_mv]
                          by_cases e : r = d.toNat
                          · rw [if_pos e, if_pos e]
                          · rw [if_neg e, if_neg e])
                      have R13 : Hid (RowI (W12.setCell ⟨qf, d.toNat, none⟩ (.int .i64 ma)) g n c.O c.D (fun i => if i < k + 1 then c.mv.A i else c.A i) (fun i => if i < k + 1 then c.mv.B i else c.B i) (fun i => if i < k + 1 then c.mv.C i else c.C i) c.X) := R12.out.grown (grown_only KZ) (by intro e; injection e with e; have := HQ.out; omega)
                      have S13 : Hid (Own (W12.setCell ⟨qf, d.toNat, none⟩ (.int .i64 ma)) qb (n + 1) (fun i => .bool (c.bg i))) := S12.out.but KZ (by have := HQ.out; omega)
                      have B13 : Hid (Below w.heap.size w (W12.setCell ⟨qf, d.toNat, none⟩ (.int .i64 ma))) := B12.out.trans (KZ.below (by have := HQ.out; omega) B12.out.size)
                      clear O12 e3 HS KZ R12 S12 B12
                      go_wp2
                      go_roundw
                      case rel => exact ⟨k + 1, by omega, by go_num, R13, HE, S13, B13⟩
                      case measure => simp [intOf]; omega
                  · have g2 : (o == 2) = false := by simp [e2]
                    have HE : Hid (Own W12 qf 400 (fun r => .int .i64 (c.fr c.bg (k + 1) r))) := by show Own _ _ _ _; rw [HS.out, mvS_fg hnm e2 hd0]; exact O12.out
                    clear O12 e2 HS
                    go_wp2
                    go_roundw
                    case rel => exact ⟨k + 1, by omega, by go_num, R12, HE, S12, B12⟩
                    case measure => simp [intOf]; omega
    · obtain rfl : k = n := by omega
      have i1 : ¬ (k : Int) < (k : Int) := by omega
      have HE : Hid (RowI wr g k c.mv.O c.mv.D c.mv.A c.mv.B c.mv.C c.mv.X) := RJ.out.mono (Nat.le_refl _) (fun i hi => rfl) (fun i hi => rfl) (fun i hi => by rw [if_pos hi]) (fun i hi => by rw [if_pos hi]) (fun i hi => by rw [if_pos hi]) (fun i hi => rfl)
      clear RJ OJ SJ
      go_wp2
      go_ret
      first | exact ⟨g, cp, rfl, HQ.out.1, HE.out, BJ.out⟩ | exact ⟨g, ⟨cp, rfl⟩, HQ.out.1, HE.out, BJ.out⟩
set_option maxRecDepth 100000 in
set_option maxHeartbeats 2000000 in
theorem moves22 (n a cap : Nat) (O D A B C X : Nat → Int) (w : World) (R : RowI w a n O D A B C X) (hX : Wds X n) (hn : n ≤ 1048576) : Calls Tryd.prog 10 #[.slice (some ⟨a, 0, none⟩) n cap] w fun e w' => ∃ u, e = .returned (.tuple #[u, .bool (goodC O D A B C X n)]) ∧ (RowIV w' u (fmN O D A B C X n) (⟨O, D, A, B, C, X, n⟩ : Cd).mv.O (⟨O, D, A, B, C, X, n⟩ : Cd).mv.D (⟨O, D, A, B, C, X, n⟩ : Cd).mv.A (⟨O, D, A, B, C, X, n⟩ : Cd).mv.B (⟨O, D, A, B, C, X, n⟩ : Cd).mv.C (⟨O, D, A, B, C, X, n⟩ : Cd).mv.X ∧ ∀ g, u.ownBlock = some g → w.heap.size ≤ g) ∧ Below w.heap.size w w' := by
  have h9 := good9 n a cap O D A B C X w R hX hn
  cases hg : goodC O D A B C X n
  · have HV : Hid (fmN O D A B C X n = 0) := by show _ = _; unfold fmN; rw [hg]; rfl
    rw [hg] at h9
    clear hX R hg
    generalize fmN O D A B C X n = m at HV ⊢
    go_enter Tryd.func10, Tryd.ntmps10
    go_wp2_with (go_at_call 33; refine h9.mono ?_; rintro e w1 ⟨rfl, B1⟩)
    go_ret2
    exact ⟨_, rfl, ⟨Or.inl ⟨HV.out, rfl⟩, fun g hg => by cases hg⟩, B1⟩
  · have HV : Hid (fmN O D A B C X n = n) := by show _ = _; unfold fmN; rw [hg]; rfl
    have K := ok_of hg hX
    have H39 : Hid (∀ v, RowI v a n O D A B C X → Calls Tryd.prog 34 #[.slice (some ⟨a, 0, none⟩) n cap] v fun e w' => ∃ g cp, e = .returned (.slice (some ⟨g, 0, none⟩) n cp) ∧ v.heap.size ≤ g ∧ RowI w' g n (⟨O, D, A, B, C, X, n⟩ : Cd).mv.O (⟨O, D, A, B, C, X, n⟩ : Cd).mv.D (⟨O, D, A, B, C, X, n⟩ : Cd).mv.A (⟨O, D, A, B, C, X, n⟩ : Cd).mv.B (⟨O, D, A, B, C, X, n⟩ : Cd).mv.C (⟨O, D, A, B, C, X, n⟩ : Cd).mv.X ∧ Below v.heap.size v w') := fun v r => moves39 n a cap ⟨O, D, A, B, C, X, n⟩ K v rfl r
    have HR : Hid (RowI w a n O D A B C X) := R
    rw [hg] at h9
    clear hX R hg K
    generalize fmN O D A B C X n = m at HV ⊢
    generalize (⟨O, D, A, B, C, X, n⟩ : Cd).mv = F at H39 ⊢
    go_enter Tryd.func10, Tryd.ntmps10
    go_wp2_with (first | (go_at_call 33; refine h9.mono ?_; rintro e w1 ⟨rfl, B1⟩) | (go_at_call 34; refine (H39.out w1 (HR.out.next B1)).mono ?_; rintro e w2 ⟨g, c, rfl, hg2, R2, B2⟩))
    go_ret2
    exact ⟨_, rfl, ⟨by rw [HV.out]; exact Or.inr ⟨g, c, rfl, R2⟩, fun q hq => by simp [Value.ownBlock] at hq; have := B1.size; omega⟩, B1.trans (B2.mono B1.size)⟩
end Go.Proofs.YtcgapochcahknaaDoor
