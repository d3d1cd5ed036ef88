/- The model's PackStruct; conditions: names at most 2^20 long, the rows in memory, words of 32 bits. -/
import Derived.Test.YteakeaclpcgopaaPck
import Derived.Test.YteakeaclpcgopaaUnpI
namespace Go.Proofs.Yteakeaclpcgopaa
open Go.ChangeShapes Go.WideShapes Go.ChangeAt Go.RowKit
open Tk (Own Only)
set_option linter.unusedVariables false
/-- A slice of slices of words, each in a block of its own. -/
structure RowsG (w : World) (b n : Nat) (G L : Nat → Nat) (V : Nat → Nat → Int) : Prop where
  top : Own w b n (fun i => .slice (some ⟨G i, 0, none⟩) (L i) (L i))
  row : ∀ i, i < n → Own w (G i) (L i) (fun j => .int .u32 (V i j))
theorem RowsG.next {w w' : World} {b n : Nat} {G L : Nat → Nat} {V : Nat → Nat → Int} (h : RowsG w b n G L V) (B : Below w.heap.size w w') : RowsG w' b n G L V :=
  ⟨h.top.next B, fun i hi => (h.row i hi).next B⟩
theorem RowsG.but {w w' : World} {b n p : Nat} {G L : Nat → Nat} {V : Nat → Nat → Int} (h : RowsG w b n G L V) (B : Only p w w') (hb : b < p) (hG : ∀ i, i < n → G i < p) : RowsG w' b n G L V :=
  ⟨h.top.but B (by omega), fun i hi => (h.row i hi).but B (by have := hG i hi; omega)⟩
theorem byte_step (v : Int) (b : Nat) : v / 256 ^ b / 256 = v / 256 ^ (b + 1) := by
  have h : (0 : Int) < 256 ^ b := Int.pow_pos (by decide)
  rw [Int.pow_succ, Int.ediv_ediv, if_neg (fun e => by omega), Int.sub_zero]
theorem info5' : (Try.prog.info? 5).map (fun i => (i.zero, i.size, i.bytes)) = some (some (.int .u8 0), 1, 1) := by kernel_rfl
theorem half_wid (t : ByteArray) (h : kOf t ≤ 8) : (t.toList == [104, 97, 108, 102]) = decide (wid (kOf t) = 2) := by
  rw [(is_kOf t).b0]
  generalize kOf t = k at *
  rcases ten (show k ≤ 9 by omega) with rfl | rfl | rfl | rfl | rfl | rfl | rfl | rfl | rfl | rfl
  all_goals first | decide | omega
set_option maxRecDepth 100000 in
set_option maxHeartbeats 40000000 in
theorem pack25 (n a b : Nat) (K T : Nat → ByteArray) (J : Nat → Int) (G L : Nat → Nat) (V : Nat → Nat → Int) (r : Int) (w : World) (X : Row3 w a n K T J) (hn : n ≤ 1048576) (hK : ∀ i, i < n → (K i).size ≤ 1048576) (Y : RowsG w b n G L V) (hL : ∀ i, i < n → L i ≤ 1048576) (hV : ∀ i j, 0 ≤ V i j ∧ V i j < 4294967296) (hok : okL K T J r n = true) (Q : Ending → World → Prop) (HNo : Hid (¬ GoodV T J n L V → ∀ w', Below w.heap.size w w' → Q (.returned (.tuple #[.slice none 0 0, .bool false])) w')) (HYes : Hid (GoodV T J n L V → ∀ w' g c, Own w' g (laySz T J r n).toNat (fun x => .int .u8 (piP T J r V n x)) → w.heap.size ≤ g → Below w.heap.size w w' → Q (.returned (.tuple #[.slice (some ⟨g, 0, none⟩) (laySz T J r n).toNat c, .bool true])) w')) : Calls Try.prog 25 #[.slice (some ⟨a, 0, none⟩) n n, .int .i64 r, .slice (some ⟨b, 0, none⟩) n n] w Q := by
  have HLL : Hid (Calls Try.prog 16 #[.slice (some ⟨a, 0, none⟩) n n, .int .i64 r] w (SaysL w (spotsL K T J r n) (laySz T J r n) (layAl T J r n) true)) := by
    have h := layout16 n a K T J r w X hn hK
    rw [hok] at h
    exact h
  obtain ⟨hr, n1, n12, hall⟩ := ok_good hok
  have HNI : Hid (∀ i j, i < n → j < cntN (kOf (T i)) (J i) → 0 ≤ offF T J r i + plc (kOf (T i)) (J i) r j ∧ offF T J r i + plc (kOf (T i)) (J i) r j + wid (kOf (T i)) ≤ laySz T J r n) := fun i j hi hj => num_in K T J r hr n hall n1 n12 i j hi hj
  have lz := lay_ge K T J r hr n hall n1 n12
  have ln0 := (end_bounds K T J r hr n hall n (Nat.le_refl _) n12).1
  obtain ⟨m, hm⟩ : ∃ m : Nat, laySz T J r n = (m : Int) := ⟨(laySz T J r n).toNat, by omega⟩
  have mb : m ≤ 200000 := by omega
  rw [show (laySz T J r n).toNat = m by omega] at HYes
  rw [hm] at HLL HNI
  clear hm lz ln0
  generalize layAl T J r n = AL at *
  obtain ⟨i5', hi5, hz50, hz51, hz52⟩ := info_parts info5'
  have hnn : ((n : Int) == (n : Int)) = true := by simp
  go_enter Try.func25, Try.ntmps25
  go_wp2_with (first | (go_at_call 16; refine HLL.out.mono ?_; rintro e w1 ⟨v, rfl, V1, gv, B1⟩; (rw [spotsL_len] at V1); (obtain ⟨g, cp, rfl, RS⟩ : ∃ g cp, v = .slice (some ⟨g, 0, none⟩) n cp ∧ RowS w1 g n (atS0 (spotsL K T J r n)) (atS1 (spotsL K T J r n)) (atS2 (spotsL K T J r n)) (atS3 (spotsL K T J r n)) := V1.resolve_left (fun h => by omega))) | (at_make; refine wpList_make_full _ rfl _ _ 46 rfl (w1.heap.size + 1) 5 i5' (.int .u8 0) 1 Try.underlying46 hi5 hz50 hz51 _ _ _ _ m rfl rfl (by first | rfl | omega) (by first | rfl | omega) (by rw [hz52]; omega) (by unfold maxLen; omega) (by simp) ?_; intro w2 hown2 hgrow2))
  have O2 : Own w2 (w1.heap.size + 1) m (fun _ => .int .u8 0) := by
    have h := Tk.own_made (w := w1.alloc (.cells #[.slice (some ⟨g, 0, none⟩) n cp, .int .i64 m, .int .i64 AL] 34)) (z := .int .u8 0) hown2
    rw [World.size_alloc] at h
    exact h
  have B12 : Below (w1.heap.size + 1) (w1.alloc (.cells #[.slice (some ⟨g, 0, none⟩) n cp, .int .i64 m, .int .i64 AL] 34)) w2 := (Below.refl _ _).grown hgrow2 (by simp) (by simp)
  have b12 : Below (w1.alloc (.cells #[.slice (some ⟨g, 0, none⟩) n cp, .int .i64 m, .int .i64 AL] 34)).heap.size (w1.alloc (.cells #[.slice (some ⟨g, 0, none⟩) n cp, .int .i64 m, .int .i64 AL] 34)) w2 := by rw [World.size_alloc]; exact B12
  have Y10 := (C3.new w1 (.slice (some ⟨g, 0, none⟩) n cp) (.int .i64 m) (.int .i64 AL) 34).next b12
  have R0 := (RS.next (alloc_b (o := .cells #[.slice (some ⟨g, 0, none⟩) n cp, .int .i64 m, .int .i64 AL] 34))).next b12
  have X0 := RowF.of (((X.next B1).next (alloc_b (o := .cells #[.slice (some ⟨g, 0, none⟩) n cp, .int .i64 m, .int .i64 AL] 34))).next b12)
  have D0 := ((Y.next B1).next (alloc_b (o := .cells #[.slice (some ⟨g, 0, none⟩) n cp, .int .i64 m, .int .i64 AL] 34))).next b12
  have B02 : Below w.heap.size w w2 := (B1.alloc B1.size (.cells #[.slice (some ⟨g, 0, none⟩) n cp, .int .i64 m, .int .i64 AL] 34)).trans (B12.mono (by have := B1.size; omega))
  have HGw : Hid (∀ i, i < n → G i < w.heap.size) := fun i hi => (Y.row i hi).hi
  obtain ⟨ob, hob⟩ : ∃ x, w1.heap.size + 1 = x := ⟨_, rfl⟩
  obtain ⟨o10, ho10⟩ : ∃ x, w1.heap.size = x := ⟨_, rfl⟩
  have l8 : o10 < ob := by omega
  have la : a < ob := by have := X.hi; have := B1.size; omega
  have lg : g < ob := by have := RS.hi; omega
  have lb : b < ob := by have := Y.top.hi; have := B1.size; omega
  have lw : w.heap.size ≤ ob := by have := B1.size; omega
  rw [hob] at O2 ⊢
  rw [ho10] at Y10 ⊢
  have lo2 : ob < w2.heap.size := O2.hi
  have HGo : Hid (∀ i, i < n → G i < ob) := fun i hi => by have := HGw.out i hi; omega
  clear hob ho10 RS gv V1 B1 hown2 hgrow2 B12 b12 HGw
  go_wp2
  go_loopw [38] (fun i wr => ∃ (k : Nat), k ≤ n ∧ i = .int .i64 k ∧ Own wr ob m (fun x => .int .u8 (piP T J r V k x)) ∧ Hid (∀ i, i < k → FitV T J L V i) ∧ Only ob w2 wr) (fun i _ => n - (intOf i).toNat)
  case atStart => exact ⟨0, by omega, rfl, O2, fun i hi => by omega, Only.refl _ _⟩
  case round =>
    obtain ⟨k, hk, rfl, OU, HR, B⟩ := hrel
    by_cases hkn : k < n
    · have i1 : (k : Int) < (n : Int) := by omega
      have i0 : (0 : Int) ≤ (k : Int) := by omega
      obtain ⟨gn, gk, gj0, gj1, gi⟩ := allG_at K T J n hall k hkn
      have oe := off_end K T J r hr n hall n12 k hkn
      have cb := cnt_bounds (kOf (T k)) (J k) gk gj0 gj1
      have w24 := w_two (kOf (T k)) gk
      have hh2 := half_wid (T k) gk
      have XX := X0.grown (only_grown B) (fun e => by injection e with e; omega)
      have c0 := XX.c0 k hkn
      have c1 := XX.c1 k hkn
      have c2 := XX.c2 k hkn
      have RX := R0.grown (only_grown B) (fun e => by injection e with e; omega)
      have YX := Y10.grown (only_grown B) (fun e => by injection e with e; omega)
      obtain ⟨e0, e1, e2, e3⟩ := at_spots K T J r n k hkn
      have d0 := RX.c0 k hkn
      have d1 := RX.c1 k hkn
      have d2 := RX.c2 k hkn
      have d3 := RX.c3 k hkn
      rw [e0] at d0
      rw [e1] at d1
      rw [e2] at d2
      rw [e3] at d3
      have HPl : Hid (∀ w, Calls Try.prog 60 #[.agg #[.string (K k), .string (T k), .int .i64 (J k)], .agg #[.string (K k), .int .i64 (offF T J r k), .int .i64 (fsz (kOf (T k)) (J k) r), .int .i64 (fstr (kOf (T k)) (J k) r)], .int .i64 r] w fun e w' => ∃ v, e = .returned v ∧ RowI w' w.heap.size v (cntN (kOf (T k)) (J k)) (fun i => offF T J r k + plc (kOf (T k)) (J k) r i) ∧ Below w.heap.size w w') := fun w => places60 (K k) (T k) (K k) (J k) r (offF T J r k) (fsz (kOf (T k)) (J k) r) w gk hr gj0 gj1 (by omega) (by omega)
      have HBy : Hid (∀ w, Calls Try.prog 61 #[.agg #[.string (K k), .string (T k), .int .i64 (J k)]] w fun e w' => e = .returned (.int .i64 (wid (kOf (T k)))) ∧ Below w.heap.size w w') := fun w => bytes61 (K k) (T k) (J k) w gk
      have HNk : Hid (∀ j, j < cntN (kOf (T k)) (J k) → 0 ≤ offF T J r k + plc (kOf (T k)) (J k) r j ∧ offF T J r k + plc (kOf (T k)) (J k) r j + wid (kOf (T k)) ≤ (m : Int)) := fun j hj => HNI.out k j hkn hj
      have HPi : Hid (piP T J r V (k + 1) = pjP (fun j => (offF T J r k + plc (kOf (T k)) (J k) r j).toNat) (wid (kOf (T k))).toNat (V k) (piP T J r V k) (cntN (kOf (T k)) (J k))) := rfl
      have HFit : Hid (FitV T J L V k ↔ (L k = cntN (kOf (T k)) (J k) ∧ ∀ j, j < L k → wid (kOf (T k)) = 2 → V k j < 65536)) := Iff.rfl
      have HFs : Hid (FitV T J L V k → ∀ i, i < k + 1 → FitV T J L V i) := fun h i hi => by
        by_cases e : i = k
        · subst e; exact h
        · exact HR.out i (by omega)
      have HBad : Hid (¬ FitV T J L V k → ¬ GoodV T J n L V) := fun h hg => h (hg k hkn)
      have hlk := hL k hkn
      obtain ⟨PI, hPI⟩ : ∃ x, piP T J r V k = x := ⟨_, rfl⟩
      rw [hPI] at HPi OU
      generalize offF T J r k = O at *
      generalize fsz (kOf (T k)) (J k) r = Z at *
      generalize plc (kOf (T k)) (J k) r = P at *
      generalize cntN (kOf (T k)) (J k) = CC at *
      generalize wid (kOf (T k)) = W at *
      obtain ⟨W', hW'⟩ : ∃ W' : Nat, W = (W' : Int) := ⟨W.toNat, by omega⟩
      have hW2 : W' = 2 ∨ W' = 4 := by omega
      subst hW'
      rw [show ((W' : Int)).toNat = W' from rfl] at HPi
      have Y13 := C3.new wr (.string (K k)) (.string (T k)) (.int .i64 (J k)) 61
      have LB := alloc_b (w := wr) (o := .cells #[.string (K k), .string (T k), .int .i64 (J k)] 61)
      have t0 := cell_al (x := .cells #[.string (K k), .string (T k), .int .i64 (J k)] 61) d0
      have t1 := cell_al (x := .cells #[.string (K k), .string (T k), .int .i64 (J k)] 61) d1
      have t2 := cell_al (x := .cells #[.string (K k), .string (T k), .int .i64 (J k)] 61) d2
      have t3 := cell_al (x := .cells #[.string (K k), .string (T k), .int .i64 (J k)] 61) d3
      have t4 := cell_al (x := .cells #[.string (K k), .string (T k), .int .i64 (J k)] 61) YX.c0
      have DX := D0.but B lb HGo.out
      have HOU : Hid (Own wr ob m (fun x => .int .u8 (PI x))) := OU
      have HDX : Hid (RowsG wr b n G L V) := DX
      have HB : Hid (Only ob w2 wr) := B
      have lwr : w2.heap.size ≤ wr.heap.size := B.size
      clear XX RX e0 e1 e2 e3 gn gi d0 d1 d2 d3 YX oe OU DX B
      go_wp2
      obtain ⟨o13, ho13⟩ : ∃ x, wr.heap.size = x := ⟨_, rfl⟩
      obtain ⟨wq, hwq⟩ : ∃ x, wr.alloc (.cells #[.string (K k), .string (T k), .int .i64 (J k)] 61) = x := ⟨_, rfl⟩
      rw [ho13] at Y13 ⊢
      rw [hwq] at Y13 t0 t1 t2 t3 t4 LB ⊢
      have u0 := Y13.c0
      have u1 := Y13.c1
      have u2 := Y13.c2
      go_region_held3 (fun v => v.cell? ⟨o13, 0, none⟩ = some (.string (K k)) ∧ v.cell? ⟨o13, 1, none⟩ = some (.string (T k)) ∧ v.cell? ⟨o13, 2, none⟩ = some (.int .i64 (J k)) ∧ v.cell? ⟨o10, 0, none⟩ = some (.slice (some ⟨g, 0, none⟩) n cp) ∧ v.cell? ⟨g, k * 4, none⟩ = some (.string (K k)) ∧ v.cell? ⟨g, k * 4 + 1, none⟩ = some (.int .i64 O) ∧ v.cell? ⟨g, k * 4 + 2, none⟩ = some (.int .i64 Z) ∧ v.cell? ⟨g, k * 4 + 3, none⟩ = some (.int .i64 (fstr (kOf (T k)) (J k) r))) (first | with_reducible exact ⟨s0, s1, s2, s3, s4, s5, s6, s7⟩ | with_reducible exact ⟨u0, u1, u2, t4, t0, t1, t2, t3⟩ | (go_keep; done)) (first | (go_at_call 60; (have hh := ‹World.cell? _ ⟨o13, 0, none⟩ = some (.string (K k)) ∧ _›); refine (HPl.out _).mono ?_; rintro e w3 ⟨vv, rfl, RI, B2⟩; (have s0 := (B2.cell (p := ⟨o13, 0, none⟩) (World.block_lt_of_cell? _ ⟨o13, 0, none⟩ hh.1)).trans hh.1); (have s1 := (B2.cell (p := ⟨o13, 1, none⟩) (World.block_lt_of_cell? _ ⟨o13, 1, none⟩ hh.2.1)).trans hh.2.1); (have s2 := (B2.cell (p := ⟨o13, 2, none⟩) (World.block_lt_of_cell? _ ⟨o13, 2, none⟩ hh.2.2.1)).trans hh.2.2.1); (have s3 := (B2.cell (p := ⟨o10, 0, none⟩) (World.block_lt_of_cell? _ ⟨o10, 0, none⟩ hh.2.2.2.1)).trans hh.2.2.2.1); (have s4 := (B2.cell (p := ⟨g, k * 4, none⟩) (World.block_lt_of_cell? _ ⟨g, k * 4, none⟩ hh.2.2.2.2.1)).trans hh.2.2.2.2.1); (have s5 := (B2.cell (p := ⟨g, k * 4 + 1, none⟩) (World.block_lt_of_cell? _ ⟨g, k * 4 + 1, none⟩ hh.2.2.2.2.2.1)).trans hh.2.2.2.2.2.1); (have s6 := (B2.cell (p := ⟨g, k * 4 + 2, none⟩) (World.block_lt_of_cell? _ ⟨g, k * 4 + 2, none⟩ hh.2.2.2.2.2.2.1)).trans hh.2.2.2.2.2.2.1); (have s7 := (B2.cell (p := ⟨g, k * 4 + 3, none⟩) (World.block_lt_of_cell? _ ⟨g, k * 4 + 3, none⟩ hh.2.2.2.2.2.2.2)).trans hh.2.2.2.2.2.2.2); (obtain ⟨g2, cp2, rfl, hg2, hg3⟩ := World.ownsRow.form RI (by omega))))
      have OW := Tk.own_owned RI (fun j => .int .i64 (O + P j)) (fun j hj => by simp [hj])
      have HC : Hid (∀ j, j < CC → w3.cell? ⟨g2, j, none⟩ = some (.int .i64 (O + P j))) := OW.cell
      have hgl : g2 < w3.heap.size := OW.hi
      have b2 : Below wq.heap.size wq w3 := ⟨B2.os, B2.tape, B2.output, B2.size, B2.block⟩
      have Bw2 : Below wr.heap.size wr w3 := LB.trans (b2.mono LB.size)
      have HOU3 : Hid (Own w3 ob m (fun x => .int .u8 (PI x))) := HOU.out.next Bw2
      have HD3 : Hid (RowsG w3 b n G L V) := HDX.out.next Bw2
      have HB3 : Hid (Only ob w2 w3) := HB.out.trans (Only.ofBelow Bw2)
      have lo13 : o13 < w3.heap.size := World.block_lt_of_cell? _ ⟨o13, 0, none⟩ s0
      have lo13b : ob < o13 := by omega
      have hg2' : wq.heap.size ≤ g2 := hg2
      have hg2o : ob < g2 := by have := LB.size; omega
      have lo3 : ob < w3.heap.size := by omega
      have v5 := HD3.out.top.cell k hkn
      have HYk : Hid (∀ j, j < L k → w3.cell? ⟨G k, j, none⟩ = some (.int .u32 (V k j))) := (HD3.out.row k hkn).cell
      have lGk : G k < ob := HGo.out k hkn
      clear OW RI B2 b2 Bw2 u0 u1 u2 t0 t1 t2 t3 t4 s3 s4 s5 s6 s7 c0 c1 c2 Y13 hg2 hg3 HOU HDX HB
      by_cases hlen : L k = CC
      case neg =>
        have hle : ((L k : Int) == (CC : Int)) = false := by simpa using (show ¬ (L k : Int) = (CC : Int) by omega)
        have HQ : Hid (Q (.returned (.tuple #[.slice none 0 0, .bool false])) w3) := HNo.out (HBad.out (fun h => hlen (HFit.out.1 h).1)) w3 (B02.trans (HB3.out.below lw (by omega)))
        go_wp2
        exact HQ.out
      have hle : ((L k : Int) == (CC : Int)) = true := by simpa using (show (L k : Int) = (CC : Int) by omega)
      go_wp2
      go_loopw [61] (fun i wx => ∃ (j : Nat), j ≤ CC ∧ i = .int .i64 j ∧ Own wx ob m (fun x => .int .u8 (pjP (fun j => (O + P j).toNat) W' (V k) PI j x)) ∧ Hid (∀ i, i < j → W' = 2 → V k i < 65536) ∧ Only ob w3 wx) (fun i _ => CC - (intOf i).toNat)
      case atStart => exact ⟨0, by omega, rfl, HOU3.out, fun i hi => by omega, Only.refl _ _⟩
      case round =>
        obtain ⟨j, hj, rfl, OX, HF, BX⟩ := hrel
        by_cases hjn : j < CC
        · have j1 : (j : Int) < (CC : Int) := by omega
          have j0 : (0 : Int) ≤ (j : Int) := by omega
          have jL : (j : Int) < (L k : Int) := by omega
          have pb := HNk.out j hjn
          have v0 := only_cell BX (HC.out j hjn) (by omega)
          have v1 := only_cell BX s0 (by omega)
          have v2 := only_cell BX s1 (by omega)
          have v3 := only_cell BX s2 (by omega)
          have v6 := only_cell BX v5 (by omega)
          have v7 := only_cell BX (HYk.out j (by omega)) (by omega)
          have hvb := hV k j
          obtain ⟨VV, hVV⟩ : ∃ x, V k j = x := ⟨_, rfl⟩
          rw [hVV] at v7 hvb
          obtain ⟨q, hq⟩ : ∃ q : Nat, O + P j = (q : Int) := ⟨(O + P j).toNat, by omega⟩
          have HPj : Hid (pjP (fun j => (O + P j).toNat) W' (V k) PI (j + 1) = wrP (pjP (fun j => (O + P j).toNat) W' (V k) PI j) q VV W') := by
            show pjP _ _ _ _ (j + 1) = _
            rw [pjP, hVV]
            simp only [hq]
            rw [show ((q : Int)).toNat = q from rfl]
          rw [hq] at pb v0
          obtain ⟨PJ, hPJ⟩ : ∃ x, pjP (fun j => (O + P j).toNat) W' (V k) PI j = x := ⟨_, rfl⟩
          rw [hPJ] at HPj OX
          by_cases hbad : W' = 2 ∧ 65535 < VV
          · have b1 : decide ((W' : Int) = 2) = true := decide_eq_true (by omega)
            rw [b1] at hh2
            have b2 : (65535 : Int) < VV := hbad.2
            have HQ : Hid (Q (.returned (.tuple #[.slice none 0 0, .bool false])) wr) := HNo.out (HBad.out (fun h => by have := (HFit.out.1 h).2 j (by omega) (by omega); omega)) wr (B02.trans ((HB3.out.trans BX).below lw (by omega)))
            clear OX BX
            go_wp2
            exact HQ.out
          · have b3 : ¬ (decide ((W' : Int) = 2) = true ∧ (65535 : Int) < VV) := fun h => hbad ⟨by have := of_decide_eq_true h.1; omega, h.2⟩
            have HOX : Hid (Own wr ob m (fun x => .int .u8 (PJ x))) := OX
            have HBX : Hid (Only ob w3 wr) := BX
            have HVf : Hid (∀ i, i < j + 1 → W' = 2 → V k i < 65536) := fun i hi h2 => by
              by_cases e : i = j
              · subst e; rw [hVV]; omega
              · exact HF.out i (by omega) h2
            clear OX BX hq hVV hPJ
            obtain ⟨hd, hhd⟩ : ∃ x, decide ((W' : Int) = 2) = x := ⟨_, rfl⟩
            rw [hhd] at b3 hh2
            have b5 : hd = true → ¬ (65535 : Int) < VV := fun h1 h2 => b3 ⟨h1, h2⟩
            clear b3 hhd
            cases hd
            all_goals
              first | (have b4 : ¬ (65535 : Int) < VV := b5 rfl) | skip
              clear b5
              go_wp2
              go_loopw [16, 17] (fun v i wy => ∃ (bb : Nat), bb ≤ W' ∧ i = .int .i64 bb ∧ v = .int .u32 (VV / 256 ^ bb) ∧ Own wy ob m (fun x => .int .u8 (wrP PJ q VV bb x)) ∧ Only ob wr wy) (fun _ i _ => W' - (intOf i).toNat)
              case atStart => exact ⟨0, by omega, rfl, by simp, by rw [wrP_zero]; exact HOX.out, Only.refl _ _⟩
              case round =>
                obtain ⟨bb, hb, rfl, rfl, OY, BY⟩ := hrel
                have y1 := only_cell BY v1 (by omega)
                have y2 := only_cell BY v2 (by omega)
                have y3 := only_cell BY v3 (by omega)
                have HOY : Hid (Own wr ob m (fun x => .int .u8 (wrP PJ q VV bb x))) := OY
                have HBY : Hid (Only ob _ wr) := BY
                by_cases hbn : bb < W'
                · have k1 : (bb : Int) < (W' : Int) := by omega
                  have k0 : (0 : Int) ≤ (bb : Int) := by omega
                  have q1 : (q : Int) + (bb : Int) < (m : Int) := by omega
                  have q0 : (0 : Int) ≤ (q : Int) + (bb : Int) := by omega
                  have qw : IntKind.i64.wrap ((q : Int) + (bb : Int)) = (q : Int) + (bb : Int) := (IntKind.wrap_i64 _).trans (by omega)
                  have qn : ((q : Int) + (bb : Int)).toNat = q + bb := by omega
                  obtain ⟨xx, hxx⟩ : ∃ x : Int, VV / 256 ^ bb = x := ⟨_, rfl⟩
                  have x0 : 0 ≤ xx := by rw [← hxx]; exact Int.ediv_nonneg hvb.1 (Int.le_of_lt (Int.pow_pos (by decide)))
                  have x1 : xx < 4294967296 := by rw [← hxx]; exact Int.lt_of_le_of_lt (Int.ediv_le_self _ hvb.1) hvb.2
                  have Hxx : Hid (VV / 256 ^ bb = xx) := hxx
                  rw [hxx]
                  clear hxx OY BY
                  go_wp2_with (go_at_call 61; refine (HBy.out _).mono ?_; rintro e w5 ⟨rfl, B5⟩; (have a5 := (HOY.out.next B5).cell (q + bb) (by omega)); (have b5 := (HOY.out.next B5).free (q + bb)))
                  go_roundw
                  case rel =>
                    refine ⟨bb + 1, by omega, by go_num, by rw [← byte_step, Hxx.out], (HOY.out.next B5).set (q + bb) _ (by omega) (fun x _ => ?_), (HBY.out.trans (Only.ofBelow B5)).setCell _ _⟩
                    rw [wrP_succ]
                    by_cases e : x = q + bb
                    · rw [if_pos e, if_pos e]
                      unfold byteOf
                      rw [Hxx.out]
                    · rw [if_neg e, if_neg e]
                  case measure => simp [intOf]; omega
                · have hbW : bb = W' := by omega
                  have k1 : ¬ (bb : Int) < (W' : Int) := by omega
                  clear OY BY
                  subst hbW
                  go_wp2_with (go_at_call 61; refine (HBy.out _).mono ?_; rintro e w5 ⟨rfl, B5⟩)
                  go_roundw
                  case rel => exact ⟨j + 1, by omega, by go_num, by rw [HPj.out]; exact HOY.out.next B5, HVf.out, (HBX.out.trans HBY.out).trans (Only.ofBelow B5)⟩
                  case measure => simp [intOf]; omega
        · have hjj : j = CC := by omega
          have j1 : ¬ (j : Int) < (CC : Int) := by omega
          have QF : Hid (∀ i, i < k + 1 → FitV T J L V i) := HFs.out (HFit.out.2 ⟨hlen, fun i hi h2 => HF.out i (by omega) (by omega)⟩)
          have QO : Hid (Own wr ob m (fun x => .int .u8 (piP T J r V (k + 1) x))) := by
            show Own _ _ _ _
            rw [HPi.out, ← hjj]
            exact OX
          have QB : Hid (Only ob w2 wr) := HB3.out.trans BX
          clear OX BX hjj
          go_wp2
          go_roundw
          case rel => exact ⟨k + 1, by omega, by go_num, QO.out, QF.out, QB.out⟩
          case measure => simp [intOf]; omega
    · have hkk : k = n := by omega
      have k1 : ¬ (k : Int) < (n : Int) := by omega
      have HQ : Hid (Q (.returned (.tuple #[.slice (some ⟨ob, 0, none⟩) m m, .bool true])) wr) := HYes.out (fun i hi => HR.out i (by omega)) wr ob m (by rw [← hkk]; exact OU) lw (B02.trans (B.below lw (by omega)))
      clear OU hkk
      go_wp2
      exact HQ.out
end Go.Proofs.Yteakeaclpcgopaa
