/- The program's FollowMoves: what reads copies reads that of which they are copies. -/
import Derived.Test.YtcgapochcahknaaDoorMvj
import Derived.Deep.Cut
namespace Go.Proofs.YtcgapochcahknaaDoor
open Go.ChangeShapes Go.WideShapes Go.ChangeAt Go.RowKit
set_option linter.unusedVariables false
theorem up_to {f g : Nat → Int} (k i : Nat) : (if i < k + 1 then f i else g i) = if i = k then f k else (if i < k then f i else g i) := by
  by_cases e : i = k
  · subst e; rw [if_pos (by omega), if_pos rfl]
  · rw [if_neg e]
    by_cases e2 : i < k
    · rw [if_pos e2, if_pos (by omega)]
    · rw [if_neg e2, if_neg (by omega)]
set_option maxRecDepth 100000 in
set_option maxHeartbeats 8000000 in
theorem follow40 (n a cap : Nat) (c : Cd) (K : Ok c) (w : World) (G : Forms w) (hn : c.n = n) (R : RowI w a n c.O c.D c.A c.B c.C c.X) (hc : n ≤ cap) : Calls Tryd.prog 36 #[.slice (some ⟨a, 0, none⟩) n cap] w fun e w' => ∃ g cp, e = .returned (.slice (some ⟨g, 0, none⟩) n cp) ∧ w.heap.size ≤ g ∧ RowI w' g n c.mv.O c.mv.D c.mv.A c.mv.B c.mv.C c.mv.X ∧ Below w.heap.size w w' := by
  have z44 := zv44
  have z67 := zv67
  have n0 : 1 ≤ n := by rw [← hn]; exact K.n0
  have n1 : n ≤ 600 := by rw [← hn]; exact K.n1
  have h60 : Calls Tryd.prog 63 #[.slice (some ⟨a, 0, none⟩) n cap] w fun e w' => (∃ S, e = .returned (.agg (bits S)) ∧ Hid (∀ i, i < n → S i = c.bg i)) ∧ Below w.heap.size w w' := by
    have := begins60 a cap c K w (by rw [hn]; exact R) (by rw [hn]; exact hc)
    rw [hn] at this
    exact this
  have HR : Hid (RowI w a n c.O c.D c.A c.B c.C c.X) := R
  have HK : Hid (Ok c) := K
  have HN : Hid (c.n = n) := hn
  have HF : Hid (∀ v, Below w.heap.size w v → Forms v) := fun v b => G.below b
  clear R K G hn hc
  go_enter Tryd.func36, Tryd.ntmps36
  go_wp2_with (first | (go_at_call 63; refine h60.mono ?_; rintro e w1 ⟨⟨S, rfl, HS⟩, B1⟩) | (refine wpList_store_own rfl 84 _ _ rfl w1.heap.size rfl 600 _ _ rfl (own_vals w1 (fun _ => .bool false) 600 84) (fun _ => rfl) size44 ?_; intro w2 O2 K2; have B12 : Below w1.heap.size w1 w2 := ((Below.refl _ _).alloc (Nat.le_refl _) _).trans (K2.below (Nat.le_refl _) (by simp)); have B02 : Below w.heap.size w w2 := B1.trans (B12.mono B1.size)) | (go_at_call 64; refine (clone61 n a cap c.O c.D c.A c.B c.C c.X w2 (HR.out.next B02) n0 n1).mono ?_; rintro e w3 ⟨g, cp, rfl, hg, R3, B3⟩))
  obtain ⟨q3, hq3⟩ : ∃ q3, w1.heap.size = q3 := ⟨_, rfl⟩
  obtain ⟨q5, hq5⟩ : ∃ q5, w3.heap.size = q5 := ⟨_, rfl⟩
  obtain ⟨w4, hw4⟩ : ∃ w4, w3.alloc (.cells (vals (fun _ => .int .i64 0) 400) 87) = w4 := ⟨_, rfl⟩
  have BA : Below w3.heap.size w3 w4 := by rw [← hw4]; exact (Below.refl _ _).alloc (Nat.le_refl _) _
  have HQ : Hid (w.heap.size ≤ q3 ∧ q3 < g ∧ g < q5 ∧ w.heap.size ≤ g) := ⟨by have := B1.size; omega, by have := O2.hi; omega, by have := R3.hi; omega, by have := B02.size; omega⟩
  have O4 : Hid (Own w4 q5 400 (fun r => .int .i64 (c.fr c.bg 0 r))) := by
    show Own _ _ _ _
    rw [← hw4, ← hq5]
    exact own_vals w3 _ 400 87
  have S4 : Hid (Own w4 q3 600 (fun i => .bool (S i))) := by
    show Own _ _ _ _
    rw [← hq3]
    exact (O2.next B3).next BA
  have R4 : Hid (RowI w4 g n c.O c.D (fun i => if i < 0 then c.mv.A i else c.A i) (fun i => if i < 0 then c.mv.B i else c.B i) (fun i => if i < 0 then c.mv.C i else c.C i) c.X) := (R3.next BA).mono (Nat.le_refl _) (fun i hi => rfl) (fun i hi => rfl) (fun i hi => by rw [if_neg (by omega)]) (fun i hi => by rw [if_neg (by omega)]) (fun i hi => by rw [if_neg (by omega)]) (fun i hi => rfl)
  have B4 : Hid (Below w.heap.size w w4) := by
    have h1 := B02.trans (B3.mono B02.size)
    exact h1.trans (BA.mono h1.size)
  rw [hw4, hq5, hq3]
  clear hw4 hq5 hq3 h60 B1 O2 K2 B12 B02 R3 B3 BA hg
  go_wp2
  go_loopw [14] (fun i wx => ∃ k : Nat, k ≤ n ∧ i = .int .i64 k ∧ Hid (RowI wx g n c.O c.D (fun i => if i < k then c.mv.A i else c.A i) (fun i => if i < k then c.mv.B i else c.B i) (fun i => if i < k then c.mv.C i else c.C i) c.X) ∧ Hid (Own wx q5 400 (fun r => .int .i64 (c.fr c.bg k r))) ∧ Hid (Own wx q3 600 (fun i => .bool (S i))) ∧ Hid (Below w.heap.size w wx)) (fun i _ => n - (intOf i).toNat)
  case atStart => exact ⟨0, by omega, rfl, R4, O4, S4, B4⟩
  case round =>
    obtain ⟨k, hk, rfl, RJ, OJ, SJ, BJ⟩ := hrel
    clear R4 O4 S4 B4
    by_cases hkn : k < n
    · have i1 : (k : Int) < (n : Int) := by omega
      have i0 : (0 : Int) ≤ (k : Int) := by omega
      have i6 : (k : Int) < 600 := by omega
      have hkc : k < c.n := by rw [HN.out]; exact hkn
      have RK := HR.out.next BJ.out
      have c0 := RK.c0 k hkn
      have c1 := RK.c1 k hkn
      have c2 := RK.c2 k hkn
      have c3 := RK.c3 k hkn
      have c4 := RK.c4 k hkn
      have c5 := RK.c5 k hkn
      have hSk := HS.out k hkn
      have BA : Below wr.heap.size wr (wr.alloc (.cells #[.int .i64 (c.O k), .int .i64 (c.D k), .int .i64 (c.A k), .int .i64 (c.B k), .int .i64 (c.C k), .int .u32 (c.X k)] 35)) := (Below.refl _ _).alloc (Nat.le_refl _) _
      obtain ⟨q7, hq7⟩ : ∃ q7, wr.heap.size = q7 := ⟨_, rfl⟩
      obtain ⟨V, hV⟩ : ∃ V, wr.alloc (.cells #[.int .i64 (c.O k), .int .i64 (c.D k), .int .i64 (c.A k), .int .i64 (c.B k), .int .i64 (c.C k), .int .u32 (c.X k)] 35) = V := ⟨_, rfl⟩
      rw [hV] at BA
      have HQ7 : Hid (q5 < q7) := by have := OJ.out.hi; show _ < _; omega
      have OI : Hid (Own V q7 6 (insV (c.O k) (c.D k) (c.A k) (c.B k) (c.C k) (c.X k))) := by
        have h := own_arr wr (insV (c.O k) (c.D k) (c.A k) (c.B k) (c.C k) (c.X k)) 6 #[.int .i64 (c.O k), .int .i64 (c.D k), .int .i64 (c.A k), .int .i64 (c.B k), .int .i64 (c.C k), .int .u32 (c.X k)] 35 q7 hq7 rfl
        rw [hV] at h
        exact h
      have RV : Hid (RowI V g n c.O c.D (fun i => if i < k then c.mv.A i else c.A i) (fun i => if i < k then c.mv.B i else c.B i) (fun i => if i < k then c.mv.C i else c.C i) c.X) := RJ.out.next BA
      have OV : Hid (Own V q5 400 (fun r => .int .i64 (c.fr c.bg k r))) := OJ.out.next BA
      have SV : Hid (Own V q3 600 (fun i => .bool (S i))) := SJ.out.next BA
      have BV : Hid (Below w.heap.size w V) := BJ.out.trans (BA.mono BJ.out.size)
      have sk := SV.out.cell k (by omega)
      rw [hSk] at sk
      have H63 : Hid (∀ (v : World), Below w.heap.size w v → Own v q5 400 (fun r => .int .i64 (c.fb c.bg k r)) → Calls Tryd.prog 66 #[.pointer (some ⟨q5, 0, none⟩), .agg #[.int .i64 (c.O k), .int .i64 (c.D k), .int .i64 (c.A k), .int .i64 (c.B k), .int .i64 (c.C k), .int .u32 (c.X k)]] v fun e w' => e = .returned (.agg #[.int .i64 (c.O k), .int .i64 (c.D k), .int .i64 (c.mv.A k), .int .i64 (c.mv.B k), .int .i64 (c.mv.C k), .int .u32 (c.X k)]) ∧ Own w' q5 400 (fun r => .int .i64 (c.fr c.bg (k + 1) r)) ∧ Only q5 v w') := fun v b o => followed63 q5 (c.fb c.bg k) _ _ _ _ _ _ v (HF.out v b) o (HK.out.wd k hkc).1 (HK.out.wd k hkc).2 (HK.out.op k hkc) (HK.out.call k hkc) (HK.out.regs k hkc) (HK.out.d k hkc).1 (HK.out.d k hkc).2
      have HPut : Hid (∀ (v : World), RowI v g n c.O c.D (fun i => if i < k then c.mv.A i else c.A i) (fun i => if i < k then c.mv.B i else c.B i) (fun i => if i < k then c.mv.C i else c.C i) c.X → RowI ((((((v.setCell ⟨g, k * 6, none⟩ (.int .i64 (c.O k))).setCell ⟨g, k * 6 + 1, none⟩ (.int .i64 (c.D k))).setCell ⟨g, k * 6 + 2, none⟩ (.int .i64 (c.mv.A k))).setCell ⟨g, k * 6 + 3, none⟩ (.int .i64 (c.mv.B k))).setCell ⟨g, k * 6 + 4, none⟩ (.int .i64 (c.mv.C k))).setCell ⟨g, k * 6 + 5, none⟩ (.int .u32 (c.X k))) g n c.O c.D (fun i => if i < k + 1 then c.mv.A i else c.A i) (fun i => if i < k + 1 then c.mv.B i else c.B i) (fun i => if i < k + 1 then c.mv.C i else c.C i) c.X) := fun v r => by
        refine ((((((r.set0 k _).set1 k _).set2 k _).set3 k _).set4 k _).set5 k _).mono (Nat.le_refl _) (fun i hi => ?_) (fun i hi => ?_) (fun i hi => up_to k i) (fun i hi => up_to k i) (fun i hi => up_to k i) (fun i hi => ?_)
        · by_cases e : i = k
          · subst e; rw [if_pos rfl]
          · rw [if_neg e]
        · by_cases e : i = k
          · subst e; rw [if_pos rfl]
          · rw [if_neg e]
        · by_cases e : i = k
          · subst e; rw [if_pos rfl]
          · rw [if_neg e]
      have HFb : Hid (c.fb c.bg k = if c.bg k then (fun (r : Nat) => (r : Int)) else c.fr c.bg k) := rfl
      clear RK RJ OJ SJ BJ hkc BA
      generalize c.mv.A k = ma at H63 HPut
      generalize c.mv.B k = mb at H63 HPut
      generalize c.mv.C k = mc at H63 HPut
      go_upto_region 7 with fail
      clear hV hq7 c0 c1 c2 c3 c4 c5
      cases hb : c.bg k
      · rw [hb] at sk HFb
        have HO : Hid (Own V q5 400 (fun r => .int .i64 (c.fb c.bg k r))) := by show Own _ _ _ _; rw [HFb.out]; exact OV.out
        clear hSk hb
        go_wp2_with (first | (refine wpList_load_own rfl 35 _ rfl q7 rfl 6 (insV (c.O k) (c.D k) (c.A k) (c.B k) (c.C k) (c.X k)) _ OI.out Tryd.underlying35 rfl size40 ?_; simp only [ins6]) | (go_at_call 66; refine (H63.out V BV.out HO.out).mono ?_; rintro e w7 ⟨rfl, O7, K7⟩; have RV7 : RowI w7 g n c.O c.D (fun i => if i < k then c.mv.A i else c.A i) (fun i => if i < k then c.mv.B i else c.B i) (fun i => if i < k then c.mv.C i else c.C i) c.X := (RV.out).grown (grown_only K7) (by intro e; injection e with e; have := HQ.out; omega); have y0 := RV7.c0 k hkn; have y1 := RV7.c1 k hkn; have y2 := RV7.c2 k hkn; have y3 := RV7.c3 k hkn; have y4 := RV7.c4 k hkn; have y5 := RV7.c5 k hkn; have z0 := RV7.free (k * 6); have z1 := RV7.free (k * 6 + 1); have z2 := RV7.free (k * 6 + 2); have z3 := RV7.free (k * 6 + 3); have z4 := RV7.free (k * 6 + 4); have z5 := RV7.free (k * 6 + 5); have HR7 : Hid (RowI w7 g n c.O c.D (fun i => if i < k then c.mv.A i else c.A i) (fun i => if i < k then c.mv.B i else c.B i) (fun i => if i < k then c.mv.C i else c.C i) c.X) := RV7; have HO7 : Hid (Own w7 q5 400 (fun r => .int .i64 (c.fr c.bg (k + 1) r))) := O7; have HS7 : Hid (Own w7 q3 600 (fun i => .bool (S i))) := (SV.out).but K7 (by have := HQ.out; omega); have HB7 : Hid (Below w.heap.size w w7) := (BV.out).trans (K7.below (by have := HQ.out; omega) (BV.out).size); clear RV7 O7 K7))
        have KW : Only g w7 ((((((w7.setCell ⟨g, k * 6, none⟩ (.int .i64 (c.O k))).setCell ⟨g, k * 6 + 1, none⟩ (.int .i64 (c.D k))).setCell ⟨g, k * 6 + 2, none⟩ (.int .i64 ma)).setCell ⟨g, k * 6 + 3, none⟩ (.int .i64 mb)).setCell ⟨g, k * 6 + 4, none⟩ (.int .i64 mc)).setCell ⟨g, k * 6 + 5, none⟩ (.int .u32 (c.X k))) := ((((((Only.refl g w7).setCell _ _).setCell _ _).setCell _ _).setCell _ _).setCell _ _).setCell _ _
        have RW := HPut.out w7 HR7.out
        have OW := HO7.out.but KW (by have := HQ.out; omega)
        have SW := HS7.out.but KW (by have := HQ.out; omega)
        have BW := HB7.out.trans (KW.below HQ.out.2.2.2 HB7.out.size)
        go_roundw
        case rel => exact ⟨k + 1, by omega, by go_num, RW, OW, SW, BW⟩
        case measure => simp [intOf]; omega
      · rw [hb] at sk HFb
        clear hSk hb
        go_wp2_with (first | (go_at_call 65; refine (none62 V).mono ?_; rintro e w5 ⟨rfl, B5⟩) | (refine wpList_store_own rfl 87 _ _ rfl q5 rfl 400 _ (fun (r : Nat) => .int .i64 (r : Int)) rfl (OV.out.next B5) (fun _ => rfl) size67 ?_; intro w6 O6 K6; have OI6 : Own w6 q7 6 (insV (c.O k) (c.D k) (c.A k) (c.B k) (c.C k) (c.X k)) := (OI.out.next B5).but K6 (by have := HQ7.out; omega); have RV6 : RowI w6 g n c.O c.D (fun i => if i < k then c.mv.A i else c.A i) (fun i => if i < k then c.mv.B i else c.B i) (fun i => if i < k then c.mv.C i else c.C i) c.X := (RV.out.next B5).grown (grown_only K6) (by intro e; injection e with e; have := HQ.out; omega); have SV6 : Own w6 q3 600 (fun i => .bool (S i)) := (SV.out.next B5).but K6 (by have := HQ.out; omega); have BV6 : Below w.heap.size w w6 := (BV.out.trans (B5.mono BV.out.size)).trans (K6.below (by have := HQ.out; omega) (by have := BV.out.size; have := B5.size; omega)); have HO6 : Own w6 q5 400 (fun r => .int .i64 (c.fb c.bg k r)) := (by rw [HFb.out]; exact O6)) | (refine wpList_load_own rfl 35 _ rfl q7 rfl 6 (insV (c.O k) (c.D k) (c.A k) (c.B k) (c.C k) (c.X k)) _ OI6 Tryd.underlying35 rfl size40 ?_; simp only [ins6]) | (go_at_call 66; refine (H63.out w6 BV6 HO6).mono ?_; rintro e w7 ⟨rfl, O7, K7⟩; have RV7 : RowI w7 g n c.O c.D (fun i => if i < k then c.mv.A i else c.A i) (fun i => if i < k then c.mv.B i else c.B i) (fun i => if i < k then c.mv.C i else c.C i) c.X := (RV6).grown (grown_only K7) (by intro e; injection e with e; have := HQ.out; omega); have y0 := RV7.c0 k hkn; have y1 := RV7.c1 k hkn; have y2 := RV7.c2 k hkn; have y3 := RV7.c3 k hkn; have y4 := RV7.c4 k hkn; have y5 := RV7.c5 k hkn; have z0 := RV7.free (k * 6); have z1 := RV7.free (k * 6 + 1); have z2 := RV7.free (k * 6 + 2); have z3 := RV7.free (k * 6 + 3); have z4 := RV7.free (k * 6 + 4); have z5 := RV7.free (k * 6 + 5); have HR7 : Hid (RowI w7 g n c.O c.D (fun i => if i < k then c.mv.A i else c.A i) (fun i => if i < k then c.mv.B i else c.B i) (fun i => if i < k then c.mv.C i else c.C i) c.X) := RV7; have HO7 : Hid (Own w7 q5 400 (fun r => .int .i64 (c.fr c.bg (k + 1) r))) := O7; have HS7 : Hid (Own w7 q3 600 (fun i => .bool (S i))) := (SV6).but K7 (by have := HQ.out; omega); have HB7 : Hid (Below w.heap.size w w7) := (BV6).trans (K7.below (by have := HQ.out; omega) (BV6).size); clear RV7 O7 K7))
        have KW : Only g w7 ((((((w7.setCell ⟨g, k * 6, none⟩ (.int .i64 (c.O k))).setCell ⟨g, k * 6 + 1, none⟩ (.int .i64 (c.D k))).setCell ⟨g, k * 6 + 2, none⟩ (.int .i64 ma)).setCell ⟨g, k * 6 + 3, none⟩ (.int .i64 mb)).setCell ⟨g, k * 6 + 4, none⟩ (.int .i64 mc)).setCell ⟨g, k * 6 + 5, none⟩ (.int .u32 (c.X k))) := ((((((Only.refl g w7).setCell _ _).setCell _ _).setCell _ _).setCell _ _).setCell _ _).setCell _ _
        have RW := HPut.out w7 HR7.out
        have OW := HO7.out.but KW (by have := HQ.out; omega)
        have SW := HS7.out.but KW (by have := HQ.out; omega)
        have BW := HB7.out.trans (KW.below HQ.out.2.2.2 HB7.out.size)
        go_roundw
        case rel => exact ⟨k + 1, by omega, by go_num, RW, OW, SW, BW⟩
        case measure => simp [intOf]; omega
    · obtain rfl : k = n := by omega
      have i1 : ¬ (k : Int) < (k : Int) := by omega
      have HE : Hid (RowI wr g k c.mv.O c.mv.D c.mv.A c.mv.B c.mv.C c.mv.X) := RJ.out.mono (Nat.le_refl _) (fun i hi => rfl) (fun i hi => rfl) (fun i hi => by rw [if_pos hi]) (fun i hi => by rw [if_pos hi]) (fun i hi => by rw [if_pos hi]) (fun i hi => rfl)
      clear RJ OJ SJ
      go_wp2
      go_ret
      first | exact ⟨g, cp, rfl, HQ.out.2.2.2, HE.out, BJ.out⟩ | exact ⟨g, ⟨cp, rfl⟩, HQ.out.2.2.2, HE.out, BJ.out⟩
/-- How many instructions FollowMoves answers. -/
def fmN (O D A B C X : Nat → Int) (n : Nat) : Nat := if goodC O D A B C X n then n else 0
set_option maxRecDepth 100000 in
set_option maxHeartbeats 4000000 in
theorem moves23 (n a cap : Nat) (O D A B C X : Nat → Int) (w : World) (G : Forms w) (R : RowI w a n O D A B C X) (hX : Wds X n) (hn : n ≤ 1048576) (hc : n ≤ cap) : Calls Tryd.prog 12 #[.slice (some ⟨a, 0, none⟩) n cap] w fun e w' => ∃ u, e = .returned (.tuple #[u, .bool (goodC O D A B C X n)]) ∧ (RowIV w' u (fmN O D A B C X n) (⟨O, D, A, B, C, X, n⟩ : Cd).mv.O (⟨O, D, A, B, C, X, n⟩ : Cd).mv.D (⟨O, D, A, B, C, X, n⟩ : Cd).mv.A (⟨O, D, A, B, C, X, n⟩ : Cd).mv.B (⟨O, D, A, B, C, X, n⟩ : Cd).mv.C (⟨O, D, A, B, C, X, n⟩ : Cd).mv.X ∧ ∀ g, u.ownBlock = some g → w.heap.size ≤ g) ∧ Below w.heap.size w w' := by
  have h9 := good11 n a cap O D A B C X w G R hX hn
  suffices H : Calls Tryd.prog 35 #[.slice (some ⟨a, 0, none⟩) n cap, .func (.func 36) #[] #[]] w fun e w' => ∃ u, e = .returned (.tuple #[u, .bool (goodC O D A B C X n)]) ∧ (RowIV w' u (fmN O D A B C X n) (⟨O, D, A, B, C, X, n⟩ : Cd).mv.O (⟨O, D, A, B, C, X, n⟩ : Cd).mv.D (⟨O, D, A, B, C, X, n⟩ : Cd).mv.A (⟨O, D, A, B, C, X, n⟩ : Cd).mv.B (⟨O, D, A, B, C, X, n⟩ : Cd).mv.C (⟨O, D, A, B, C, X, n⟩ : Cd).mv.X ∧ ∀ g, u.ownBlock = some g → w.heap.size ≤ g) ∧ Below w.heap.size w w' by
    clear h9 G R hX
    go_enter Tryd.func12, Tryd.ntmps12
    go_wp2_with (go_at_call 35; refine H.mono ?_; rintro e w1 ⟨u, rfl, U, B1⟩)
    go_ret2
    exact ⟨u, rfl, U, B1⟩
  cases hg : goodC O D A B C X n
  · have HV : Hid (fmN O D A B C X n = 0) := by show _ = _; unfold fmN; rw [hg]; rfl
    rw [hg] at h9
    clear hX R hg
    generalize fmN O D A B C X n = m at HV ⊢
    go_enter Tryd.func35, Tryd.ntmps35
    go_wp2_with (go_at_call 56; refine h9.mono ?_; rintro e w1 ⟨rfl, B1⟩)
    go_ret2
    exact ⟨_, rfl, ⟨Or.inl ⟨HV.out, rfl⟩, fun g hg => by cases hg⟩, B1⟩
  · have HV : Hid (fmN O D A B C X n = n) := by show _ = _; unfold fmN; rw [hg]; rfl
    have K := ok_of hg hX
    have H40 : Hid (∀ v, Forms v → RowI v a n O D A B C X → Calls Tryd.prog 36 #[.slice (some ⟨a, 0, none⟩) n cap] v fun e w' => ∃ g cp, e = .returned (.slice (some ⟨g, 0, none⟩) n cp) ∧ v.heap.size ≤ g ∧ RowI w' g n (⟨O, D, A, B, C, X, n⟩ : Cd).mv.O (⟨O, D, A, B, C, X, n⟩ : Cd).mv.D (⟨O, D, A, B, C, X, n⟩ : Cd).mv.A (⟨O, D, A, B, C, X, n⟩ : Cd).mv.B (⟨O, D, A, B, C, X, n⟩ : Cd).mv.C (⟨O, D, A, B, C, X, n⟩ : Cd).mv.X ∧ Below v.heap.size v w') := fun v f r => follow40 n a cap ⟨O, D, A, B, C, X, n⟩ K v f rfl r hc
    have HR : Hid (RowI w a n O D A B C X) := R
    have HF : Hid (∀ v, Below w.heap.size w v → Forms v) := fun v b => G.below b
    rw [hg] at h9
    clear hX R hg K G
    generalize fmN O D A B C X n = m at HV ⊢
    generalize (⟨O, D, A, B, C, X, n⟩ : Cd).mv = F at H40 ⊢
    go_enter Tryd.func35, Tryd.ntmps35
    go_wp2_with (first | (go_at_call 56; refine h9.mono ?_; rintro e w1 ⟨rfl, B1⟩) | (go_at_call 36; refine (H40.out w1 (HF.out _ B1) (HR.out.next B1)).mono ?_; rintro e w2 ⟨g, c, rfl, hg2, R2, B2⟩))
    go_ret2
    exact ⟨_, rfl, ⟨by rw [HV.out]; exact Or.inr ⟨g, c, rfl, R2⟩, fun q hq => by simp [Value.ownBlock] at hq; have := B1.size; omega⟩, B1.trans (B2.mono B1.size)⟩
end Go.Proofs.YtcgapochcahknaaDoor
