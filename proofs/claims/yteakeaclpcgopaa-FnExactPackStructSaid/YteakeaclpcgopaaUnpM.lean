/- The model's UnpackStruct; conditions: names at most 2^20 long, the rows in memory, bytes. -/
import Derived.Test.YteakeaclpcgopaaUnp
namespace Go.Proofs.Yteakeaclpcgopaa
open Go.ChangeShapes Go.WideShapes Go.ChangeAt Go.RowKit
open Tk (Own Only)
set_option linter.unusedVariables false
set_option maxRecDepth 100000 in
set_option maxHeartbeats 40000000 in
theorem unp33 (n a d m mc : Nat) (K T : Nat → ByteArray) (J : Nat → Int) (D : Nat → Int) (r : Int) (w : World) (X : Row3 w a n K T J) (hn : n ≤ 1048576) (hK : ∀ i, i < n → (K i).size ≤ 1048576) (Y : Own w d m (fun i => .int .u8 (D i))) (hm : m ≤ 1048576) (hD : ∀ i, 0 ≤ D i ∧ D i < 256) : Calls Try.prog 33 #[.slice (some ⟨a, 0, none⟩) n n, .int .i64 r, .slice (some ⟨d, 0, none⟩) m mc] w (SaysU w (if okU K T J r n m = true then n else 0) (uwL T J) (uwF T J r D) (okU K T J r n m)) := by
  have HL := layout16 n a K T J r w X hn hK
  have hU : okU K T J r n m = (okL K T J r n && decide ((m : Int) = laySz T J r n)) := rfl
  rw [hU]
  cases hok : okL K T J r n
  case false =>
    rw [hok] at HL
    have HLL : Hid (Calls Try.prog 16 #[.slice (some ⟨a, 0, none⟩) n n, .int .i64 r] w (SaysL w [] 0 0 false)) := HL
    clear HL hU
    simp only [Bool.false_and, Bool.false_eq_true, if_false]
    go_enter Try.func33, Try.ntmps33
    go_wp2_with (go_at_call 16; refine HLL.out.mono ?_; rintro e w1 ⟨v, rfl, V1, gv, B1⟩; obtain ⟨sv, lv, cv, rfl⟩ := V1.is)
    exact bodyPost_ret (v := .tuple #[.slice none 0 0, .bool false]) (by simp [results, Try.results33, go_sem]) rfl (says_no w _ _ _ (B1.alloc B1.size _))
  rw [hok] at HL
  obtain ⟨hr, n1, n12, hall⟩ := ok_good hok
  have HLL : Hid (Calls Try.prog 16 #[.slice (some ⟨a, 0, none⟩) n n, .int .i64 r] w (SaysL w (spotsL K T J r n) (laySz T J r n) (layAl T J r n) true)) := HL
  have HNI : Hid (∀ i j, i < n → j < cntN (kOf (T i)) (J i) → 0 ≤ offF T J r i + plc (kOf (T i)) (J i) r j ∧ offF T J r i + plc (kOf (T i)) (J i) r j + wid (kOf (T i)) ≤ laySz T J r n) := fun i j hi hj => num_in K T J r hr n hall n1 n12 i j hi hj
  clear HL hU
  generalize laySz T J r n = SZ at *
  generalize layAl T J r n = AL at *
  by_cases hms : (m : Int) = SZ
  case neg =>
    have hms' : ((m : Int) == SZ) = false := by simpa using hms
    rw [decide_eq_false hms]
    simp only [Bool.and_false, Bool.false_eq_true, if_false]
    go_enter Try.func33, Try.ntmps33
    go_wp2_with (go_at_call 16; refine HLL.out.mono ?_; rintro e w1 ⟨v, rfl, V1, gv, B1⟩; obtain ⟨sv, lv, cv, rfl⟩ := V1.is)
    exact bodyPost_ret (v := .tuple #[.slice none 0 0, .bool false]) (by simp [results, Try.results33, go_sem]) rfl (says_no w _ _ _ (B1.alloc B1.size _))
  rw [decide_eq_true hms]
  subst hms
  simp only [Bool.and_self, if_true]
  obtain ⟨i3', hi3, hz30, hz31, hz32⟩ := info_parts info94
  obtain ⟨i4', hi4, hz40, hz41, hz42⟩ := info_parts info93
  go_enter Try.func33, Try.ntmps33
  go_wp2_with (go_at_call 16; refine HLL.out.mono ?_; rintro e w1 ⟨v, rfl, V1, gv, B1⟩; (rw [spotsL_len] at V1); (obtain ⟨g, cp, rfl, RS⟩ : ∃ g cp, v = .slice (some ⟨g, 0, none⟩) n cp ∧ RowS w1 g n (atS0 (spotsL K T J r n)) (atS1 (spotsL K T J r n)) (atS2 (spotsL K T J r n)) (atS3 (spotsL K T J r n)) := V1.resolve_left (fun h => by omega)))
  have Y10 := C3.new w1 (.slice (some ⟨g, 0, none⟩) n cp) (.int .i64 m) (.int .i64 AL) 34
  have R0 := RS.next (alloc_b (o := .cells #[.slice (some ⟨g, 0, none⟩) n cp, .int .i64 m, .int .i64 AL] 34))
  have X0 := (X.next B1).next (alloc_b (o := .cells #[.slice (some ⟨g, 0, none⟩) n cp, .int .i64 m, .int .i64 AL] 34))
  have D0 := (Y.next B1).next (alloc_b (o := .cells #[.slice (some ⟨g, 0, none⟩) n cp, .int .i64 m, .int .i64 AL] 34))
  have B0 := B1.alloc B1.size (.cells #[.slice (some ⟨g, 0, none⟩) n cp, .int .i64 m, .int .i64 AL] 34)
  obtain ⟨o10, ho10⟩ : ∃ x, w1.heap.size = x := ⟨_, rfl⟩
  obtain ⟨W1, hW1⟩ : ∃ x, w1.alloc (.cells #[.slice (some ⟨g, 0, none⟩) n cp, .int .i64 m, .int .i64 AL] 34) = x := ⟨_, rfl⟩
  rw [hW1] at Y10 R0 X0 D0 B0 ⊢
  rw [ho10] at Y10 ⊢
  clear hW1 ho10 RS gv V1 B1
  go_loopw [10, 35] (fun vv i wr => ∃ (k : Nat) (u : Value) (S : Nat → Value), k ≤ n ∧ i = .int .i64 k ∧ u = vv ∧ wr.ownsRow W1.heap.size 93 1 u k ((List.range k).map S) ∧ Hid (∀ i, i < k → IRow wr W1.heap.size (S i) (uwL T J i) (uwF T J r D i)) ∧ Hid (∀ i j, i < j → j < k → ∀ x y, (S i).ownBlock = some x → (S j).ownBlock = some y → x < y) ∧ Below W1.heap.size W1 wr) (fun _ i _ => n - (intOf i).toNat)
  case atStart => exact ⟨0, .slice none 0 0, fun _ => .slice none 0 0, by omega, rfl, rfl, World.ownsRow_nil _ _ _ _, fun i hi => by omega, fun i j _ hj => by omega, Below.refl _ _⟩
  case round =>
    obtain ⟨k, u, S, hk, rfl, rfl, OU, HR, HI, B⟩ := hrel
    by_cases hkn : k < n
    · have i1 : (k : Int) < (n : Int) := by omega
      have i0 : (0 : Int) ≤ (k : Int) := by omega
      obtain ⟨gn, gk, gj0, gj1, gi⟩ := allG_at K T J n hall k hkn
      have oe := off_end K T J r hr n hall n12 k hkn
      have cb := cnt_bounds (kOf (T k)) (J k) gk gj0 gj1
      have w24 := w_two (kOf (T k)) gk
      have XX := X0.next B
      have c0 := XX.k k hkn
      have c1 := XX.t k hkn
      have c2 := XX.j k hkn
      have RX := R0.next B
      have YX := Y10.next B
      obtain ⟨e0, e1, e2, e3⟩ := at_spots K T J r n k hkn
      have d0 := RX.c0 k hkn
      have d1 := RX.c1 k hkn
      have d2 := RX.c2 k hkn
      have d3 := RX.c3 k hkn
      rw [e0] at d0
      rw [e1] at d1
      rw [e2] at d2
      rw [e3] at d3
      have HPl : Hid (∀ w, Calls Try.prog 60 #[.agg #[.string (K k), .string (T k), .int .i64 (J k)], .agg #[.string (K k), .int .i64 (offF T J r k), .int .i64 (fsz (kOf (T k)) (J k) r), .int .i64 (fstr (kOf (T k)) (J k) r)], .int .i64 r] w fun e w' => ∃ v, e = .returned v ∧ RowI w' w.heap.size v (cntN (kOf (T k)) (J k)) (fun i => offF T J r k + plc (kOf (T k)) (J k) r i) ∧ Below w.heap.size w w') := fun w => places60 (K k) (T k) (K k) (J k) r (offF T J r k) (fsz (kOf (T k)) (J k) r) w gk hr gj0 gj1 (by omega) (by omega)
      have HBy : Hid (∀ w, Calls Try.prog 61 #[.agg #[.string (K k), .string (T k), .int .i64 (J k)]] w fun e w' => e = .returned (.int .i64 (wid (kOf (T k)))) ∧ Below w.heap.size w w') := fun w => bytes61 (K k) (T k) (J k) w gk
      have HNk : Hid (∀ j, j < cntN (kOf (T k)) (J k) → 0 ≤ offF T J r k + plc (kOf (T k)) (J k) r j ∧ offF T J r k + plc (kOf (T k)) (J k) r j + wid (kOf (T k)) ≤ (m : Int)) := fun j hj => HNI.out k j hkn hj
      have HF : Hid (∀ j, uwF T J r D k j = wordAt D (wid (kOf (T k))) (offF T J r k + plc (kOf (T k)) (J k) r j).toNat) := fun j => rfl
      have HLk : Hid (uwL T J k = cntN (kOf (T k)) (J k)) := rfl
      generalize offF T J r k = O at *
      generalize fsz (kOf (T k)) (J k) r = Z at *
      generalize plc (kOf (T k)) (J k) r = P at *
      generalize cntN (kOf (T k)) (J k) = CC at *
      generalize wid (kOf (T k)) = W at *
      have Y13 := C3.new wr (.string (K k)) (.string (T k)) (.int .i64 (J k)) 61
      have LB := alloc_b (w := wr) (o := .cells #[.string (K k), .string (T k), .int .i64 (J k)] 61)
      have t0 := cell_al (x := .cells #[.string (K k), .string (T k), .int .i64 (J k)] 61) d0
      have t1 := cell_al (x := .cells #[.string (K k), .string (T k), .int .i64 (J k)] 61) d1
      have t2 := cell_al (x := .cells #[.string (K k), .string (T k), .int .i64 (J k)] 61) d2
      have t3 := cell_al (x := .cells #[.string (K k), .string (T k), .int .i64 (J k)] 61) d3
      have t4 := cell_al (x := .cells #[.string (K k), .string (T k), .int .i64 (J k)] 61) YX.c0
      have HOU : Hid (wr.ownsRow W1.heap.size 93 1 u k ((List.range k).map S)) := OU
      clear XX RX e0 e1 e2 e3 gn gi d0 d1 d2 d3 YX oe OU
      go_wp2
      obtain ⟨o13, ho13⟩ : ∃ x, wr.heap.size = x := ⟨_, rfl⟩
      obtain ⟨wq, hwq⟩ : ∃ x, wr.alloc (.cells #[.string (K k), .string (T k), .int .i64 (J k)] 61) = x := ⟨_, rfl⟩
      rw [ho13] at Y13 ⊢
      rw [hwq] at Y13 t0 t1 t2 t3 t4 LB ⊢
      have u0 := Y13.c0
      have u1 := Y13.c1
      have u2 := Y13.c2
      go_region_held3 (fun v => v.cell? ⟨o13, 0, none⟩ = some (.string (K k)) ∧ v.cell? ⟨o13, 1, none⟩ = some (.string (T k)) ∧ v.cell? ⟨o13, 2, none⟩ = some (.int .i64 (J k)) ∧ v.cell? ⟨o10, 0, none⟩ = some (.slice (some ⟨g, 0, none⟩) n cp) ∧ v.cell? ⟨g, k * 4, none⟩ = some (.string (K k)) ∧ v.cell? ⟨g, k * 4 + 1, none⟩ = some (.int .i64 O) ∧ v.cell? ⟨g, k * 4 + 2, none⟩ = some (.int .i64 Z) ∧ v.cell? ⟨g, k * 4 + 3, none⟩ = some (.int .i64 (fstr (kOf (T k)) (J k) r))) (first | with_reducible exact ⟨s0, s1, s2, s3, s4, s5, s6, s7⟩ | with_reducible exact ⟨u0, u1, u2, t4, t0, t1, t2, t3⟩ | (go_keep; done)) (first | (go_at_call 60; (have hh := ‹World.cell? _ ⟨o13, 0, none⟩ = some (.string (K k)) ∧ _›); refine (HPl.out _).mono ?_; rintro e w2 ⟨vv, rfl, RI, B2⟩; (have s0 := (B2.cell (p := ⟨o13, 0, none⟩) (World.block_lt_of_cell? _ ⟨o13, 0, none⟩ hh.1)).trans hh.1); (have s1 := (B2.cell (p := ⟨o13, 1, none⟩) (World.block_lt_of_cell? _ ⟨o13, 1, none⟩ hh.2.1)).trans hh.2.1); (have s2 := (B2.cell (p := ⟨o13, 2, none⟩) (World.block_lt_of_cell? _ ⟨o13, 2, none⟩ hh.2.2.1)).trans hh.2.2.1); (have s3 := (B2.cell (p := ⟨o10, 0, none⟩) (World.block_lt_of_cell? _ ⟨o10, 0, none⟩ hh.2.2.2.1)).trans hh.2.2.2.1); (have s4 := (B2.cell (p := ⟨g, k * 4, none⟩) (World.block_lt_of_cell? _ ⟨g, k * 4, none⟩ hh.2.2.2.2.1)).trans hh.2.2.2.2.1); (have s5 := (B2.cell (p := ⟨g, k * 4 + 1, none⟩) (World.block_lt_of_cell? _ ⟨g, k * 4 + 1, none⟩ hh.2.2.2.2.2.1)).trans hh.2.2.2.2.2.1); (have s6 := (B2.cell (p := ⟨g, k * 4 + 2, none⟩) (World.block_lt_of_cell? _ ⟨g, k * 4 + 2, none⟩ hh.2.2.2.2.2.2.1)).trans hh.2.2.2.2.2.2.1); (have s7 := (B2.cell (p := ⟨g, k * 4 + 3, none⟩) (World.block_lt_of_cell? _ ⟨g, k * 4 + 3, none⟩ hh.2.2.2.2.2.2.2)).trans hh.2.2.2.2.2.2.2); (obtain ⟨g2, cp2, rfl, hg2, hg3⟩ := World.ownsRow.form RI (by omega))))
      have OW := Tk.own_owned RI (fun j => .int .i64 (O + P j)) (fun j hj => by simp [hj])
      have HC : Hid (∀ j, j < CC → w2.cell? ⟨g2, j, none⟩ = some (.int .i64 (O + P j))) := OW.cell
      have hgl : g2 < w2.heap.size := OW.hi
      have b2 : Below wq.heap.size wq w2 := ⟨B2.os, B2.tape, B2.output, B2.size, B2.block⟩
      have Bw2 : Below wr.heap.size wr w2 := LB.trans (b2.mono LB.size)
      have HBw2 : Hid (Below wr.heap.size wr w2) := Bw2
      have HB13 : Hid (Below W1.heap.size W1 w2) := B.trans (Bw2.mono B.size)
      have HD2 : Hid (Own w2 d m (fun i => .int .u8 (D i))) := (D0.next B).next Bw2
      have lo13 : o13 < w2.heap.size := World.block_lt_of_cell? _ ⟨o13, 0, none⟩ s0
      clear OW RI B2 b2 Bw2 u0 u1 u2 t0 t1 t2 t3 t4 s3 s4 s5 s6 s7 c0 c1 c2 Y13 hg2 hg3
      go_wp2
      go_loopw [13, 49] (fun vv i wx => ∃ (j : Nat) (uu : Value), j ≤ CC ∧ i = .int .i64 j ∧ uu = vv ∧ IRow wx w2.heap.size uu j (uwF T J r D k) ∧ Below w2.heap.size w2 wx) (fun _ i _ => CC - (intOf i).toNat)
      case atStart => exact ⟨0, _, by omega, rfl, rfl, World.ownsRow_nil _ _ _ _, Below.refl _ _⟩
      case round =>
        obtain ⟨j, uu, hj, rfl, rfl, IR, BX⟩ := hrel
        by_cases hjn : j < CC
        · have j1 : (j : Int) < (CC : Int) := by omega
          have j0 : (0 : Int) ≤ (j : Int) := by omega
          have pb := HNk.out j hjn
          have v0 := (BX.cell (p := ⟨g2, j, none⟩) hgl).trans (HC.out j hjn)
          have v1 := (BX.cell (p := ⟨o13, 0, none⟩) lo13).trans s0
          have v2 := (BX.cell (p := ⟨o13, 1, none⟩) lo13).trans s1
          have v3 := (BX.cell (p := ⟨o13, 2, none⟩) lo13).trans s2
          have hf := HF.out j
          obtain ⟨q, hq⟩ : ∃ q : Nat, O + P j = (q : Int) := ⟨(O + P j).toNat, by omega⟩
          rw [hq] at pb v0 hf
          rw [show ((q : Int)).toNat = q from rfl] at hf
          have HFj : Hid (uwF T J r D k j = wordAt D W q) := hf
          have HIR : Hid (IRow wr w2.heap.size uu j (uwF T J r D k)) := IR
          have HDx : Hid (∀ w', Below wr.heap.size wr w' → ∀ i, i < m → w'.cell? ⟨d, i, none⟩ = some (.int .u8 (D i))) := fun w' bb i hi => ((HD2.out.next BX).next bb).cell i hi
          have HDb : Hid (∀ i, 0 ≤ D i ∧ D i < 256) := hD
          clear hq hf IR
          rcases w24 with hW | hW
          · subst hW
            obtain ⟨x0, hx0⟩ : ∃ x, D (q) = x := ⟨_, rfl⟩
            obtain ⟨x1, hx1⟩ : ∃ x, D (q + 1) = x := ⟨_, rfl⟩
            have y0 := HDb.out (q)
            rw [hx0] at y0
            have y1 := HDb.out (q + 1)
            rw [hx1] at y1
            have HWd : Hid (wordAt D 2 q = x1 * 256 + x0) := by
              show wordAt D 2 q = _
              unfold wordAt word2
              rw [if_pos rfl, hx0, hx1]
              omega
            have HD0 : Hid (∀ w', Below wr.heap.size wr w' → w'.cell? ⟨d, q, none⟩ = some (.int .u8 x0) ∧ w'.cell? ⟨d, q + 1, none⟩ = some (.int .u8 x1)) := fun w' bb => ⟨by rw [← hx0]; exact HDx.out w' bb (q) (by omega), by rw [← hx1]; exact HDx.out w' bb (q + 1) (by omega)⟩
            have hq1 : (q : Int) + 1 < (m : Int) := by omega
            clear hx0 hx1 HDx
            go_wp2_with (go_at_call 61; refine (HBy.out _).mono ?_; rintro e w3 ⟨rfl, B3⟩; (obtain ⟨z0, z1⟩ := HD0.out w3 B3))
            refine wp_loop_rounds 3 ?_
            rw [rounds_succ]
            go_wp2
            rw [or_zero x1 y1.1 (by omega)]
            have o0 : bits .or .u32 ((x1) * 256) x0 = (x1) * 256 + x0 := or_high 8 x0 (x1) y0.1 y0.2 (by omega) (by omega)
            rw [rounds_succ]
            go_wp2
            clear o0
            have IR3 := owns_next HIR.out B3
            rw [rounds_succ]
            go_wp2_with (at_builtin; refine wpList_append_own _ rfl _ _ 93 rfl w2.heap.size 94 i3' (.int .u32 0) 1 4 Try.underlying93 hi3 hz30 hz31 hz32 rfl (by decide) _ _ _ rfl (IR3.alloc _) ⟨w3.heap.size, 0, none⟩ 1 1 [.int .u32 ((x1) * 256 + x0)] rfl rfl ?c1 ?c2 ?c3 ?c4 ?c5 ?_)
            try
              case c1 =>
                intro j u hj
                match j, hj with
                | 0, hj => simp at hj; subst hj; simp [Addr.add]
            case c2 => first | (intro u hu; simp at hu; subst hu; rfl) | rfl
            case c3 => unfold maxLen; omega
            case c4 => omega
            case c5 => have := BX.size; have := B3.size; first | omega | (simp; omega)
            intro v' w4 hown' hgrow hnil
            have far : ∀ g, uu.ownBlock = some g → w2.heap.size ≤ g := fun g hg => (IR3.lt g hg).1
            have R1 : Hid (IRow w4 w2.heap.size v' (j + 1) (uwF T J r D k)) := by
              show World.ownsRow _ _ _ _ _ _ _
              rw [List.range_succ, List.map_append]
              simp only [List.map_cons, List.map_nil]
              rw [HFj.out, HWd.out]
              exact hown'
            have B4 : Hid (Below w2.heap.size w2 w4) := ((BX.trans (B3.mono BX.size)).alloc (by have := BX.size; have := B3.size; omega) _).grown hgrow (by have := BX.size; have := B3.size; simp; omega) (fun g hg => far g hg)
            clear hown' hgrow hnil IR3 far
            go_wp2
            go_roundw
            case rel => exact ⟨j + 1, _, by omega, by go_num, rfl, R1.out, B4.out⟩
            case measure => simp [intOf]; omega
          · subst hW
            obtain ⟨x0, hx0⟩ : ∃ x, D (q) = x := ⟨_, rfl⟩
            obtain ⟨x1, hx1⟩ : ∃ x, D (q + 1) = x := ⟨_, rfl⟩
            obtain ⟨x2, hx2⟩ : ∃ x, D (q + 2) = x := ⟨_, rfl⟩
            obtain ⟨x3, hx3⟩ : ∃ x, D (q + 3) = x := ⟨_, rfl⟩
            have y0 := HDb.out (q)
            rw [hx0] at y0
            have y1 := HDb.out (q + 1)
            rw [hx1] at y1
            have y2 := HDb.out (q + 2)
            rw [hx2] at y2
            have y3 := HDb.out (q + 3)
            rw [hx3] at y3
            have HWd : Hid (wordAt D 4 q = ((x3 * 256 + x2) * 256 + x1) * 256 + x0) := by
              show wordAt D 4 q = _
              unfold wordAt word4
              rw [if_neg (by decide), hx0, hx1, hx2, hx3]
              omega
            have HD0 : Hid (∀ w', Below wr.heap.size wr w' → w'.cell? ⟨d, q, none⟩ = some (.int .u8 x0) ∧ w'.cell? ⟨d, q + 1, none⟩ = some (.int .u8 x1) ∧ w'.cell? ⟨d, q + 2, none⟩ = some (.int .u8 x2) ∧ w'.cell? ⟨d, q + 3, none⟩ = some (.int .u8 x3)) := fun w' bb => ⟨by rw [← hx0]; exact HDx.out w' bb (q) (by omega), by rw [← hx1]; exact HDx.out w' bb (q + 1) (by omega), by rw [← hx2]; exact HDx.out w' bb (q + 2) (by omega), by rw [← hx3]; exact HDx.out w' bb (q + 3) (by omega)⟩
            have hq1 : (q : Int) + 3 < (m : Int) := by omega
            clear hx0 hx1 hx2 hx3 HDx
            go_wp2_with (go_at_call 61; refine (HBy.out _).mono ?_; rintro e w3 ⟨rfl, B3⟩; (obtain ⟨z0, z1, z2, z3⟩ := HD0.out w3 B3))
            refine wp_loop_rounds 5 ?_
            rw [rounds_succ]
            go_wp2
            rw [or_zero x3 y3.1 (by omega)]
            have o2 : bits .or .u32 ((x3) * 256) x2 = (x3) * 256 + x2 := or_high 8 x2 (x3) y2.1 y2.2 (by omega) (by omega)
            rw [rounds_succ]
            go_wp2
            clear o2
            have o1 : bits .or .u32 (((x3) * 256 + x2) * 256) x1 = ((x3) * 256 + x2) * 256 + x1 := or_high 8 x1 ((x3) * 256 + x2) y1.1 y1.2 (by omega) (by omega)
            rw [rounds_succ]
            go_wp2
            clear o1
            have o0 : bits .or .u32 ((((x3) * 256 + x2) * 256 + x1) * 256) x0 = (((x3) * 256 + x2) * 256 + x1) * 256 + x0 := or_high 8 x0 (((x3) * 256 + x2) * 256 + x1) y0.1 y0.2 (by omega) (by omega)
            rw [rounds_succ]
            go_wp2
            clear o0
            have IR3 := owns_next HIR.out B3
            rw [rounds_succ]
            go_wp2_with (at_builtin; refine wpList_append_own _ rfl _ _ 93 rfl w2.heap.size 94 i3' (.int .u32 0) 1 4 Try.underlying93 hi3 hz30 hz31 hz32 rfl (by decide) _ _ _ rfl (IR3.alloc _) ⟨w3.heap.size, 0, none⟩ 1 1 [.int .u32 ((((x3) * 256 + x2) * 256 + x1) * 256 + x0)] rfl rfl ?c1 ?c2 ?c3 ?c4 ?c5 ?_)
            try
              case c1 =>
                intro j u hj
                match j, hj with
                | 0, hj => simp at hj; subst hj; simp [Addr.add]
            case c2 => first | (intro u hu; simp at hu; subst hu; rfl) | rfl
            case c3 => unfold maxLen; omega
            case c4 => omega
            case c5 => have := BX.size; have := B3.size; first | omega | (simp; omega)
            intro v' w4 hown' hgrow hnil
            have far : ∀ g, uu.ownBlock = some g → w2.heap.size ≤ g := fun g hg => (IR3.lt g hg).1
            have R1 : Hid (IRow w4 w2.heap.size v' (j + 1) (uwF T J r D k)) := by
              show World.ownsRow _ _ _ _ _ _ _
              rw [List.range_succ, List.map_append]
              simp only [List.map_cons, List.map_nil]
              rw [HFj.out, HWd.out]
              exact hown'
            have B4 : Hid (Below w2.heap.size w2 w4) := ((BX.trans (B3.mono BX.size)).alloc (by have := BX.size; have := B3.size; omega) _).grown hgrow (by have := BX.size; have := B3.size; simp; omega) (fun g hg => far g hg)
            clear hown' hgrow hnil IR3 far
            go_wp2
            go_roundw
            case rel => exact ⟨j + 1, _, by omega, by go_num, rfl, R1.out, B4.out⟩
            case measure => simp [intOf]; omega
        · have hjj : j = CC := by omega
          have j1 : ¬ (j : Int) < (CC : Int) := by omega
          subst hjj
          obtain ⟨gk', ck', rfl, hgk, hgk2⟩ := World.ownsRow.form IR (by omega)
          have HOUx := owns_next (owns_next HOU.out HBw2.out) BX
          have IRx : Hid (IRow wr w2.heap.size (.slice (some ⟨gk', 0, none⟩) j ck') j (uwF T J r D k)) := IR
          have HRx : Hid (∀ i, i < k → IRow wr W1.heap.size (S i) (uwL T J i) (uwF T J r D i)) := fun i hi => ((HR.out i hi).next HBw2.out).next BX
          have Hlt : Hid (∀ i, i < k → ∀ x, (S i).ownBlock = some x → x < w2.heap.size) := fun i hi x hx => by have := ((HR.out i hi).lt x hx).2; have := HBw2.out.size; omega
          have lw : W1.heap.size ≤ w2.heap.size := HB13.out.size
          have lx : w2.heap.size ≤ wr.heap.size := BX.size
          have HBx : Hid (Below W1.heap.size W1 wr) := HB13.out.trans (BX.mono lw)
          clear IR
          go_wp2_with (at_builtin; refine wpList_append_own _ rfl _ _ 44 rfl W1.heap.size 93 i4' (.slice none 0 0) 1 24 Try.underlying44 hi4 hz40 hz41 hz42 rfl (by decide) _ _ _ rfl (HOUx.alloc _) ⟨wr.heap.size, 0, none⟩ 1 1 [.slice (some ⟨gk', 0, none⟩) j ck'] rfl rfl ?c1 ?c2 ?c3 ?c4 ?c5 ?_)
          try
            case c1 =>
              intro j u hj
              match j, hj with
              | 0, hj => simp at hj; subst hj; simp [Addr.add]
          case c2 => first | (intro u hu; simp at hu; subst hu; rfl) | rfl
          case c3 => unfold maxLen; omega
          case c4 => omega
          case c5 => first | omega | (simp; omega)
          intro v' w4 hown' hgrow hnil
          have kept : ∀ (B : Nat) (q : Value) (L : Nat) (F : Nat → Int), IRow wr B q L F → IRow w4 B q L F := fun B q L F h => by
            have h2 : (wr.alloc (.cells #[.slice (some ⟨gk', 0, none⟩) j ck'] 93)).ownsRow B 94 1 q L ((List.range L).map fun j => .int .u32 (F j)) := h.alloc _
            refine h2.kept hgrow ?_
            cases hq : q.ownBlock with
            | none => exact Or.inl rfl
            | some z => exact Or.inr (fun e => owns_apart h HOUx (by decide) z hq e.symm)
          have eS : (List.range (k + 1)).map (fun i => if i = k then Value.slice (some ⟨gk', 0, none⟩) j ck' else S i) = (List.range k).map S ++ [.slice (some ⟨gk', 0, none⟩) j ck'] := by
            rw [List.range_succ, List.map_append]
            congr 1
            · apply List.map_congr_left
              intro i hi
              rw [if_neg (by have := List.mem_range.1 hi; omega)]
            · simp
          have Q1 : Hid (w4.ownsRow W1.heap.size 93 1 v' (k + 1) ((List.range (k + 1)).map (fun i => if i = k then Value.slice (some ⟨gk', 0, none⟩) j ck' else S i))) := by show World.ownsRow _ _ _ _ _ _ _; rw [eS]; exact hown'
          have Q2 : Hid (∀ i, i < k + 1 → IRow w4 W1.heap.size (if i = k then Value.slice (some ⟨gk', 0, none⟩) j ck' else S i) (uwL T J i) (uwF T J r D i)) := fun i hi => by
            by_cases e : i = k
            · subst e
              rw [if_pos rfl, HLk.out]
              exact owns_mono (kept _ _ _ _ IRx.out) lw
            · rw [if_neg e]
              exact kept _ _ _ _ (HRx.out i (by omega))
          have Q3 : Hid (∀ i j', i < j' → j' < k + 1 → ∀ x y, (if i = k then Value.slice (some ⟨gk', 0, none⟩) j ck' else S i).ownBlock = some x → (if j' = k then Value.slice (some ⟨gk', 0, none⟩) j ck' else S j').ownBlock = some y → x < y) := fun i j' hij hj' x y hx hy => by
            rw [if_neg (by omega)] at hx
            by_cases e : j' = k
            · rw [if_pos e] at hy
              have := Hlt.out i (by omega) x hx
              simp [Value.ownBlock] at hy
              omega
            · rw [if_neg e] at hy
              exact HI.out i j' hij (by omega) x y hx hy
          have Q4 : Hid (Below W1.heap.size W1 w4) := (HBx.out.alloc HBx.out.size _).grown hgrow (by simp; omega) (fun q hq => (HOUx.lt q hq).1)
          clear hown' hgrow hnil kept eS HOUx
          go_wp2
          go_roundw
          case rel => exact ⟨k + 1, _, _, by omega, by go_num, rfl, Q1.out, Q2.out, Q3.out, Q4.out⟩
          case measure => simp [intOf]; omega
    · have hkk : k = n := by omega
      have k1 : ¬ (k : Int) < (n : Int) := by omega
      have hs : SaysU w n (uwL T J) (uwF T J r D) true (.returned (.tuple #[u, .bool true])) wr := by
        subst hkk
        obtain ⟨gu, cu, rfl, _, _⟩ := World.ownsRow.form OU (by omega)
        refine ⟨_, S, rfl, ⟨Or.inr ⟨gu, cu, rfl, Tk.own_owned OU S (fun i hi => by simp [hi])⟩, fun i hi => (HR.out i hi).row⟩, ⟨fun i j hi hj hij x hx hy => ?_, fun i hi x hx => owns_apart (HR.out i hi) OU (by decide) x hx⟩, fun x hx => ?_, fun i hi x hx => ?_, B0.trans (B.mono B0.size)⟩
        · rcases Nat.lt_or_gt_of_ne hij with h | h
          · have := HI.out i j h hj x x hx hy; omega
          · have := HI.out j i h hi x x hy hx; omega
        · have := (OU.lt x hx).1; have := B0.size; omega
        · have := ((HR.out i hi).lt x hx).1; have := B0.size; omega
      have HS : Hid (SaysU w n (uwL T J) (uwF T J r D) true (.returned (.tuple #[u, .bool true])) wr) := hs
      obtain ⟨su, lu, cu, rfl⟩ : ∃ x y z, u = .slice x y z := by
        rcases OU.2 with ⟨rfl, _⟩ | ⟨g, cap, cur, rfl, _⟩
        · exact ⟨_, _, _, rfl⟩
        · exact ⟨_, _, _, rfl⟩
      clear hs OU hkk
      go_wp2
      exact bodyPost_ret (v := .tuple #[.slice su lu cu, .bool true]) (by simp [results, Try.results33, go_sem]) rfl HS.out
end Go.Proofs.Yteakeaclpcgopaa
