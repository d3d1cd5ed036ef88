/- The program's UnpackStruct; conditions: names at most 2^20 long, the rows in memory, bytes. -/
import Derived.Test.YteakeaclpcgopaaUnp
import Derived.Test.YteakeaclpcgopaaLayI
import Derived.Deep.RegionLaw
import Derived.Deep.Cut
import Derived.Deep.DeepCutAuto
namespace Go.Proofs.Yteakeaclpcgopaa
open Go.ChangeShapes Go.WideShapes Go.ChangeAt Go.RowKit
open Tk (Own Only)
set_option linter.unusedVariables false
theorem only_grown {o : Nat} {w w' : World} (h : Only o w w') : w.grownBy w' (some o) := ⟨h.os, h.tape, h.output, h.size, fun k hk hne => h.block k hk (fun e => hne (by rw [e]))⟩
theorem owns_only {w w' : World} {base o : Nat} {e : TypeId} {size : Nat} {v : Value} {n : Nat} {xs : List Value} (h : w.ownsRow base e size v n xs) (b : Only o w w') (hne : v.ownBlock ≠ some o) : w'.ownsRow base e size v n xs := h.kept (only_grown b) (Or.inr hne)
theorem own_grown {w w' : World} {o n : Nat} {f : Nat → Value} {row : Option Nat} (h : Own w o n f) (hb : w.grownBy w' row) (hne : some o ≠ row) : Own w' o n f := by
  have z := hb.size
  have b := hb.block o h.hi hne
  exact ⟨fun i hi => (World.cell?_of_block (w := w) (a := ⟨o, i, none⟩) b).trans (h.cell i hi), fun i => (World.frozen?_of_block (w := w) (a := ⟨o, i, none⟩) b).trans (h.free i), by have := h.hi; omega⟩
theorem only_grow {o : Nat} {a b c : World} {row : Option Nat} (h : Only o a b) (hb : b.grownBy c row) (hr : ∀ g, row = some g → a.heap.size ≤ g) : Only o a c :=
  ⟨hb.os.trans h.os, hb.tape.trans h.tape, hb.output.trans h.output, Nat.le_trans h.size hb.size, fun k hk hne => (hb.block k (Nat.lt_of_lt_of_le hk h.size) (fun e => by have := hr k e.symm; omega)).trans (h.block k hk hne)⟩
theorem step_call {P : Program} {ops : Array Oper} {o : Oper} {a : Act} {w : World} {K : Act → World → Prop} {Q : Exit → Act → World → Prop} {E : Prop} (f : FuncId) (args : Array Value) (v : Value) (hgd : o.guard = none) (hrun : (execOp a.eval o).run P w = .ok (.enter f args) w) (h : Calls P f args w fun e w' => e = .returned v ∧ w' = w) (hK : K (a.put o.dst v) w) : if Region.wanted o (yielded ops a.tmps) = true then Oper.wp P o a w K Q else E := by
  have hw : Region.wanted o (yielded ops a.tmps) = true := by simp [Region.wanted, hgd]
  rw [if_pos hw]
  unfold Oper.wp
  rw [hrun, Oper.upon_enter]
  refine h.mono ?_
  rintro e w' ⟨rfl, rfl⟩
  exact hK
theorem only_cell {o : Nat} {w w' : World} {p i : Nat} {x : Value} (h : Only o w w') (c : w.cell? ⟨p, i, none⟩ = some x) (hne : p ≠ o) : w'.cell? ⟨p, i, none⟩ = some x :=
  (World.cell?_of_block (w := w) (a := ⟨p, i, none⟩) (h.block p (World.block_lt_of_cell? w ⟨p, i, none⟩ c) hne)).trans c
set_option maxRecDepth 100000 in
set_option maxHeartbeats 40000000 in
theorem unp35 (n a d m : Nat) (K T : Nat → ByteArray) (J : Nat → Int) (D : Nat → Int) (r : Int) (w : World) (X : Row3 w a n K T J) (hn : n ≤ 1048576) (hK : ∀ i, i < n → (K i).size ≤ 1048576) (Y : Own w d m (fun i => .int .u8 (D i))) (hm : m ≤ 1048576) (hD : ∀ i, 0 ≤ D i ∧ D i < 256) : Calls Try.prog 35 #[.slice (some ⟨a, 0, none⟩) n n, .int .i64 r, .slice (some ⟨d, 0, none⟩) m m] w (SaysU w (if okU K T J r n m = true then n else 0) (uwL T J) (uwF T J r D) (okU K T J r n m)) := by
  have HL := layout17 n a K T J r w X hn hK
  have hU : okU K T J r n m = (okL K T J r n && decide ((m : Int) = laySz T J r n)) := rfl
  rw [hU]
  cases hok : okL K T J r n
  case false =>
    rw [hok] at HL
    have HLL : Hid (Calls Try.prog 17 #[.slice (some ⟨a, 0, none⟩) n n, .int .i64 r] w (SaysL w [] 0 0 false)) := HL
    clear HL hU
    simp only [Bool.false_and, Bool.false_eq_true, if_false]
    go_enter Try.func35, Try.ntmps35
    go_wp2_with (go_at_call 17; refine HLL.out.mono ?_; rintro e w1 ⟨v, rfl, V1, gv, B1⟩; obtain ⟨sv, lv, cv, rfl⟩ := V1.is)
    exact bodyPost_ret (v := .tuple #[.slice none 0 0, .bool false]) (by simp [results, Try.results35, go_sem]) rfl (says_no w _ _ _ (B1.alloc B1.size _))
  rw [hok] at HL
  obtain ⟨hr, n1, n12, hall⟩ := ok_good hok
  have HLL : Hid (Calls Try.prog 17 #[.slice (some ⟨a, 0, none⟩) n n, .int .i64 r] w (SaysL w (spotsL K T J r n) (laySz T J r n) (layAl T J r n) true)) := HL
  have HNI : Hid (∀ i j, i < n → j < cntN (kOf (T i)) (J i) → 0 ≤ offF T J r i + plc (kOf (T i)) (J i) r j ∧ offF T J r i + plc (kOf (T i)) (J i) r j + wid (kOf (T i)) ≤ laySz T J r n) := fun i j hi hj => num_in K T J r hr n hall n1 n12 i j hi hj
  clear HL hU
  generalize laySz T J r n = SZ at *
  generalize layAl T J r n = AL at *
  by_cases hms : (m : Int) = SZ
  case neg =>
    have hms' : ((m : Int) == SZ) = false := by simpa using hms
    rw [decide_eq_false hms]
    simp only [Bool.and_false, Bool.false_eq_true, if_false]
    go_enter Try.func35, Try.ntmps35
    go_wp2_with (go_at_call 17; refine HLL.out.mono ?_; rintro e w1 ⟨v, rfl, V1, gv, B1⟩; obtain ⟨sv, lv, cv, rfl⟩ := V1.is)
    exact bodyPost_ret (v := .tuple #[.slice none 0 0, .bool false]) (by simp [results, Try.results35, go_sem]) rfl (says_no w _ _ _ (B1.alloc B1.size _))
  rw [decide_eq_true hms]
  subst hms
  simp only [Bool.and_self, if_true]
  obtain ⟨i3', hi3, hz30, hz31, hz32⟩ := info_parts info94
  obtain ⟨i4', hi4, hz40, hz41, hz42⟩ := info_parts info93
  have n12' : (n : Int) ≤ 12 := by omega
  go_enter Try.func35, Try.ntmps35
  go_wp2_with (first | (go_at_call 17; refine HLL.out.mono ?_; rintro e w1 ⟨v, rfl, V1, gv, B1⟩; (rw [spotsL_len] at V1); (obtain ⟨g, cp, rfl, RS⟩ : ∃ g cp, v = .slice (some ⟨g, 0, none⟩) n cp ∧ RowS w1 g n (atS0 (spotsL K T J r n)) (atS1 (spotsL K T J r n)) (atS2 (spotsL K T J r n)) (atS3 (spotsL K T J r n)) := V1.resolve_left (fun h => by omega))) | (at_make; refine wpList_make_full _ rfl _ _ 44 rfl (w1.heap.size + 1) 93 i4' (.slice none 0 0) 1 Try.underlying44 hi4 hz40 hz41 _ _ _ _ n rfl rfl (by first | rfl | omega) (by first | rfl | omega) (by rw [hz42]; omega) (by unfold maxLen; omega) (by simp) ?_; intro w2 hown2 hgrow2))
  have O2 : Own w2 (w1.heap.size + 1) n (fun _ => .slice none 0 0) := by
    have h := Tk.own_made (w := w1.alloc (.cells #[.slice (some ⟨g, 0, none⟩) n cp, .int .i64 m, .int .i64 AL] 34)) (z := .slice none 0 0) hown2
    rw [World.size_alloc] at h
    exact h
  have B12 : Below (w1.heap.size + 1) (w1.alloc (.cells #[.slice (some ⟨g, 0, none⟩) n cp, .int .i64 m, .int .i64 AL] 34)) w2 := (Below.refl _ _).grown hgrow2 (by simp) (by simp)
  have b12 : Below (w1.alloc (.cells #[.slice (some ⟨g, 0, none⟩) n cp, .int .i64 m, .int .i64 AL] 34)).heap.size (w1.alloc (.cells #[.slice (some ⟨g, 0, none⟩) n cp, .int .i64 m, .int .i64 AL] 34)) w2 := by rw [World.size_alloc]; exact B12
  have Y8 := (C3.new w1 (.slice (some ⟨g, 0, none⟩) n cp) (.int .i64 m) (.int .i64 AL) 34).next b12
  have R0 := (RS.next (alloc_b (o := .cells #[.slice (some ⟨g, 0, none⟩) n cp, .int .i64 m, .int .i64 AL] 34))).next b12
  have X0 := RowF.of (((X.next B1).next (alloc_b (o := .cells #[.slice (some ⟨g, 0, none⟩) n cp, .int .i64 m, .int .i64 AL] 34))).next b12)
  have D0 := ((Y.next B1).next (alloc_b (o := .cells #[.slice (some ⟨g, 0, none⟩) n cp, .int .i64 m, .int .i64 AL] 34))).next b12
  have B02 : Below w.heap.size w w2 := (B1.alloc B1.size (.cells #[.slice (some ⟨g, 0, none⟩) n cp, .int .i64 m, .int .i64 AL] 34)).trans (B12.mono (by have := B1.size; omega))
  obtain ⟨ob, hob⟩ : ∃ x, w1.heap.size + 1 = x := ⟨_, rfl⟩
  obtain ⟨o8, ho8⟩ : ∃ x, w1.heap.size = x := ⟨_, rfl⟩
  have l8 : o8 < ob := by omega
  have la : a < ob := by have := X.hi; have := B1.size; omega
  have lg : g < ob := by have := RS.hi; omega
  have ld : d < ob := by have := Y.hi; have := B1.size; omega
  have lw : w.heap.size ≤ ob := by have := B1.size; omega
  rw [hob] at O2 ⊢
  rw [ho8] at Y8 ⊢
  have lo2 : ob < w2.heap.size := O2.hi
  clear hob ho8 RS gv V1 B1 hown2 hgrow2 B12 b12
  go_loopw [37] (fun i wr => ∃ (k : Nat) (S : Nat → Value), k ≤ n ∧ i = .int .i64 k ∧ Own wr ob n (fun i => if i < k then S i else .slice none 0 0) ∧ Hid (∀ i, i < k → IRow wr w2.heap.size (S i) (uwL T J i) (uwF T J r D i)) ∧ Hid (∀ i j, i < j → j < k → ∀ x y, (S i).ownBlock = some x → (S j).ownBlock = some y → x < y) ∧ Only ob w2 wr) (fun i _ => n - (intOf i).toNat)
  case atStart => exact ⟨0, fun _ => .slice none 0 0, by omega, rfl, O2.mono (Nat.le_refl _) (fun i _ => by simp), fun i hi => by omega, fun i j _ hj => by omega, Only.refl _ _⟩
  case round =>
    obtain ⟨k, S, hk, rfl, OU, HR, HI, B⟩ := hrel
    by_cases hkn : k < n
    · have i1 : (k : Int) < (n : Int) := by omega
      have i0 : (0 : Int) ≤ (k : Int) := by omega
      obtain ⟨gn, gk, gj0, gj1, gi⟩ := allG_at K T J n hall k hkn
      have oe := off_end K T J r hr n hall n12 k hkn
      have cb := cnt_bounds (kOf (T k)) (J k) gk gj0 gj1
      have w24 := w_two (kOf (T k)) gk
      have XX := X0.grown (only_grown B) (fun e => by injection e with e; omega)
      have c0 := XX.c0 k hkn
      have c1 := XX.c1 k hkn
      have c2 := XX.c2 k hkn
      have RX := R0.grown (only_grown B) (fun e => by injection e with e; omega)
      have YX := Y8.grown (only_grown B) (fun e => by injection e with e; omega)
      have DX := D0.but B (by omega)
      have e1 := (at_spots K T J r n k hkn).2.1
      have lwr : w2.heap.size ≤ wr.heap.size := B.size
      have H64 : Hid (∀ w, Calls Try.prog 64 #[.string (T k)] w fun e w' => e = .returned (.agg #[.int .i64 (cols (kOf (T k))), .int .i64 (nums (kOf (T k))), .int .i64 (wid (kOf (T k)))]) ∧ Below w.heap.size w w') := fun w => shape64 (T k) w
      have H65 : Hid (∀ w, Calls Try.prog 65 #[.agg #[.string (K k), .string (T k), .int .i64 (J k)], .int .i64 r] w fun e w' => ∃ v, e = .returned v ∧ RowI w' w.heap.size v (cntN (kOf (T k)) (J k)) (plc (kOf (T k)) (J k) r) ∧ Below w.heap.size w w') := fun w => places65 (K k) (T k) (J k) r w gk hr gj0 gj1
      have HNk : Hid (∀ j, j < cntN (kOf (T k)) (J k) → 0 ≤ plc (kOf (T k)) (J k) r j ∧ offF T J r k + plc (kOf (T k)) (J k) r j + wid (kOf (T k)) ≤ (m : Int)) := fun j hj => ⟨(plc_in (kOf (T k)) (J k) r gk hr gj0 gj1 j hj).1, (HNI.out k j hkn hj).2⟩
      have HF : Hid (∀ j, uwF T J r D k j = wordAt D (wid (kOf (T k))) (offF T J r k + plc (kOf (T k)) (J k) r j).toNat) := fun j => rfl
      have HLk : Hid (uwL T J k = cntN (kOf (T k)) (J k)) := rfl
      have hoff := (HNI.out k 0 hkn (by omega)).2
      have hp0 := (plc_in (kOf (T k)) (J k) r gk hr gj0 gj1 0 (by omega)).1
      have wb := w_bounds (kOf (T k)) gk
      have hRe : Hid (∀ w', Below wr.heap.size wr w' → w'.cell? ⟨g, k * 4 + 1, none⟩ = some (.int .i64 (offF T J r k))) := fun w' bb => by rw [← e1]; exact (RX.next bb).c1 k hkn
      have hY8 : Hid (∀ w', Below wr.heap.size wr w' → w'.cell? ⟨o8, 0, none⟩ = some (.slice (some ⟨g, 0, none⟩) n cp)) := fun w' bb => (YX.next bb).c0
      have HOU : Hid (Own wr ob n (fun i => if i < k then S i else .slice none 0 0)) := OU
      have HDX : Hid (Own wr d m (fun i => .int .u8 (D i))) := DX
      obtain ⟨oq, hoq⟩ : ∃ q : Nat, offF T J r k = (q : Int) := ⟨(offF T J r k).toNat, by omega⟩
      rw [hoq] at HNk HF hRe hoff
      have hoqm : (oq : Int) ≤ (m : Int) := by omega
      have hmo : ¬ m = oq := by omega
      generalize plc (kOf (T k)) (J k) r = P at *
      generalize cntN (kOf (T k)) (J k) = CC at *
      generalize cols (kOf (T k)) = q1 at *
      generalize nums (kOf (T k)) = q2 at *
      generalize wid (kOf (T k)) = W at *
      have hf2 : ∀ w : World, (Instr.field 89 (.agg #[.int .i64 q1, .int .i64 q2, .int .i64 W]) 2).run Try.prog w = .ok (.int .i64 W) w := fun _ => by kernel_rfl
      clear XX RX YX DX e1 gn gi oe OU hoq hoff hp0
      go_wp2_with (first | (go_at_call 64; refine (H64.out _).mono ?_; rintro e w3 ⟨rfl, B3⟩; (have b3 : Below wr.heap.size wr w3 := alloc_b.trans (B3.mono (by simp))); (obtain ⟨f0, f1, f2, _, _, _, _⟩ := (C3.new wr (.string (K k)) (.string (T k)) (.int .i64 (J k)) 61).next B3); (have y8 := hY8.out w3 b3); (have yo := hRe.out w3 b3)) | (go_at_call 65; refine (H65.out _).mono ?_; rintro e w4 ⟨vv, rfl, RI, B4⟩; (obtain ⟨g2, cp2, rfl, hg2, hg3⟩ := World.ownsRow.form RI (by omega))))
      have OW := Tk.own_owned RI (fun j => .int .i64 (P j)) (fun j hj => by simp [hj])
      have HC : Hid (∀ j, j < CC → w4.cell? ⟨g2, j, none⟩ = some (.int .i64 (P j))) := OW.cell
      have Bw4 : Below wr.heap.size wr w4 := b3.trans (B4.mono b3.size)
      have HBw4 : Hid (Below wr.heap.size wr w4) := Bw4
      have HO4 : Hid (Own w4 ob n (fun i => if i < k then S i else .slice none 0 0)) := HOU.out.next Bw4
      have HD4 : Hid (Own w4 d m (fun i => .int .u8 (D i))) := HDX.out.next Bw4
      have HR4 : Hid (∀ i, i < k → IRow w4 w2.heap.size (S i) (uwL T J i) (uwF T J r D i)) := fun i hi => (HR.out i hi).next Bw4
      have Hlt : Hid (∀ i, i < k → ∀ x, (S i).ownBlock = some x → x < w4.heap.size) := fun i hi x hx => by have := (World.ownsRow.lt (HR.out i hi) x hx).2; have := Bw4.size; omega
      have HB24 : Hid (Only ob w2 w4) := B.trans (Only.ofBelow Bw4)
      have hg2o : ob < g2 := by have := b3.size; omega
      have lo4 : ob < w4.heap.size := HO4.out.hi
      clear OW RI B3 B4 b3 Bw4 f0 f1 f2 y8 yo c0 c1 c2 hf2 hg2 hg3
      obtain ⟨M, hM⟩ : ∃ M, m - oq = M := ⟨_, rfl⟩
      rw [hM]
      go_loopw [58] (fun i wx => ∃ (j : Nat) (uu : Value), j ≤ CC ∧ i = .int .i64 j ∧ Own wx ob n (fun i => if i < k then S i else if i = k then uu else .slice none 0 0) ∧ IRow wx w4.heap.size uu j (uwF T J r D k) ∧ Only ob w4 wx) (fun i _ => CC - (intOf i).toNat)
      case atStart => exact ⟨0, .slice none 0 0, by omega, rfl, HO4.out.mono (Nat.le_refl _) (fun i _ => by by_cases e : i < k; (rw [if_pos e, if_pos e]); (rw [if_neg e, if_neg e]; split <;> rfl)), World.ownsRow_nil _ _ _ _, Only.refl _ _⟩
      case round =>
        obtain ⟨j, uu, hj, rfl, OX, IR, BX⟩ := hrel
        by_cases hjn : j < CC
        · have j1 : (j : Int) < (CC : Int) := by omega
          have j0 : (0 : Int) ≤ (j : Int) := by omega
          have pb := HNk.out j hjn
          have v0 := only_cell BX (HC.out j hjn) (by omega)
          have hf := HF.out j
          obtain ⟨q, hq⟩ : ∃ q : Nat, P j = (q : Int) := ⟨(P j).toNat, by omega⟩
          rw [hq] at pb v0 hf
          rw [show ((oq : Int) + (q : Int)).toNat = oq + q by omega] at hf
          have HFj : Hid (uwF T J r D k j = wordAt D W (oq + q)) := hf
          have HDx : Hid (Own wr d m (fun i => .int .u8 (D i))) := HD4.out.but BX (by omega)
          have a0 : wr.cell? ⟨ob, k, none⟩ = some uu := by have := OX.cell k hkn; simpa using this
          have a1 := OX.free k
          obtain ⟨su, lu, cu, rfl⟩ : ∃ x y z, uu = .slice x y z := by
            rcases IR.2 with ⟨rfl, _⟩ | ⟨g, cap, cur, rfl, _⟩
            · exact ⟨_, _, _, rfl⟩
            · exact ⟨_, _, _, rfl⟩
          clear hq hf
          obtain ⟨W', hW'⟩ : ∃ W' : Nat, W = (W' : Int) := ⟨W.toNat, by omega⟩
          have hW2 : W' = 2 ∨ W' = 4 := by omega
          subst hW'
          have H73 : Hid (∀ (w' : World) (cap : Nat), (∀ i, i < W' → w'.cell? ⟨d, oq + q + i, none⟩ = some (.int .u8 (D (oq + q + i)))) → Calls Try.prog 73 #[.slice (some ⟨d, oq + q, none⟩) W' cap] w' fun e w'' => e = .returned (.int .u32 (wordAt D (W' : Int) (oq + q))) ∧ w'' = w') := fun w' cap hc => num73 d (oq + q) W' cap D w' hW2 hc hD
          go_wp2
          have f1 : (q : Int) + (W' : Int) ≤ (M : Int) := by omega
          have f2 : ¬ M = q := by omega
          have f4 : (q : Int) ≤ (M : Int) := by omega
          have f5 : IntKind.i64.wrap ((q : Int) + (W' : Int)) = (q : Int) + (W' : Int) := (IntKind.wrap_i64 _).trans (by omega)
          have f6 : (0 : Int) ≤ (q : Int) := by omega
          have f7 : (q : Int) ≤ (q : Int) + (W' : Int) := by omega
          have f8 : (0 : Int) ≤ (q : Int) + (W' : Int) := by omega
          have f9 : ((q : Int) + (W' : Int)).toNat - q = W' := by omega
          have fm : oq + q + W' ≤ m := by omega
          have Hdata : Hid (∀ w' : World, Below wr.heap.size wr w' → ∀ i, i < W' → w'.cell? ⟨d, oq + q + i, none⟩ = some (.int .u8 (D (oq + q + i)))) := fun w' bb i hi => (HDx.out.next bb).cell (oq + q + i) (by omega)
          have neo : some ob ≠ (Value.slice su lu cu).ownBlock := fun e => by have := (IR.lt ob e.symm).1; omega
          have HIR : Hid (wr.ownsRow w4.heap.size 94 1 (.slice su lu cu) j ((List.range j).map fun i => .int .u32 (uwF T J r D k i))) := IR
          have HOX : Hid (Own wr ob n (fun i => if i < k then S i else if i = k then .slice su lu cu else .slice none 0 0)) := OX
          have lx4 : w4.heap.size ≤ wr.heap.size := BX.size
          have HBX : Hid (Only ob w4 wr) := BX
          have dr : Below wr.heap.size wr wr.drew := (Below.refl _ _).drew
          have HjC : Hid (j + 1 ≤ 1048576) := show j + 1 ≤ 1048576 by omega
          clear IR OX BX
          obtain ⟨V, hV⟩ : ∃ V, wordAt D (W' : Int) (oq + q) = V := ⟨_, rfl⟩
          rw [hV] at H73 HFj
          clear hV
          have aA : (wr.alloc (.cells #[.int .u32 V] 94)).cell? ⟨ob, k, none⟩ = some (.slice su lu cu) := by have := (HOX.out.next (alloc_b (o := .cells #[.int .u32 V] 94))).cell k hkn; simpa using this
          have hfar : ∀ g, (Value.slice su lu cu).ownBlock = some g → w4.heap.size ≤ g := fun g hg => (HIR.out.lt g hg).1
          have Hfar : Hid (∀ g, (Value.slice su lu cu).ownBlock = some g → w4.heap.size ≤ g) := hfar
          clear hfar
          clear X0 R0 D0 Y8 B02 O2 HNI HF HLk HO4 HD4 HC H64 H65 HR4 Hlt HB24
          go_region_law (first | (refine step_call 73 #[.slice (some ⟨d, oq + q, none⟩) W' (M - q)] (.int .u32 V) (by rfl) (by go_simp) (H73.out _ _ (Hdata.out _ dr)) ?_) | (refine step_append_lies _ (by rfl) _ _ 93 (by rfl) w4.heap.size 94 i3' (.int .u32 0) 1 4 Try.underlying93 hi3 hz30 hz31 hz32 rfl (by decide) (.slice su lu cu) j _ (by rfl) ((HIR.out.drew).alloc _) ⟨wr.heap.size, 0, none⟩ 1 1 [.int .u32 V] (by rfl) rfl (fun j u hj => by match j, hj with | 0, hj => (simp at hj; subst hj; simp [Addr.add])) (fun u hu => by simp at hu; subst hu; rfl) (by omega) (by have := HjC.out; unfold maxLen; omega) (by have := HjC.out; omega) (by simp; omega) _ rfl ?_; intro g5 cap5 w5 hown5 hgrow5 hat5 hlt5; (have OX5 := own_grown ((HOX.out.next dr).next (alloc_b (o := .cells #[.int .u32 V] 94))) hgrow5 neo); (have a5 : w5.cell? ⟨ob, k, none⟩ = some (.slice su lu cu) := by have := OX5.cell k hkn; simpa using this); (have b5 := OX5.free k)))
          all_goals
            have N1 : Hid (Own (w5.setCell ⟨ob, k, none⟩ (.slice (some ⟨g5, 0, none⟩) (j + 1) cap5)) ob n (fun i => if i < k then S i else if i = k then .slice (some ⟨g5, 0, none⟩) (j + 1) cap5 else .slice none 0 0)) := OX5.set k _ hkn (fun i hi => by by_cases e : i = k; (subst e; simp); (simp [e]))
            have N2 : Hid (IRow (w5.setCell ⟨ob, k, none⟩ (.slice (some ⟨g5, 0, none⟩) (j + 1) cap5)) w4.heap.size (.slice (some ⟨g5, 0, none⟩) (j + 1) cap5) (j + 1) (uwF T J r D k)) := by
              show World.ownsRow _ _ _ _ _ _ _
              refine owns_but ?_ ob k _ lo4
              rw [List.range_succ, List.map_append]
              simp only [List.map_cons, List.map_nil]
              rw [HFj.out]
              exact hown5
            have N3 : Hid (Only ob w4 (w5.setCell ⟨ob, k, none⟩ (.slice (some ⟨g5, 0, none⟩) (j + 1) cap5))) := (only_grow (HBX.out.trans (Only.ofBelow (alloc_b (o := .cells #[.int .u32 V] 94)).drew)) hgrow5 Hfar.out).setCell k _
            clear OX5 a5 b5 hown5 hgrow5 hat5 hlt5 HIR HOX HBX Hdata H73 a0 a1 aA v0 dr neo Hfar
            go_wp2
            go_roundw
            case rel => exact ⟨j + 1, _, by omega, by go_num, N1.out, N2.out, N3.out⟩
            case measure => simp [intOf]; omega
        · have hjj : j = CC := by omega
          have j1 : ¬ (j : Int) < (CC : Int) := by omega
          subst hjj
          have Q0 : Hid (Own wr ob n (fun i => if i < k + 1 then (if i = k then uu else S i) else .slice none 0 0)) := OX.mono (Nat.le_refl _) (fun i _ => by
            by_cases e : i = k
            · subst e; simp
            · by_cases e2 : i < k
              · rw [if_pos (by omega), if_neg e, if_pos e2]
              · rw [if_neg (by omega), if_neg e2, if_neg e])
          have Q2 : Hid (∀ i, i < k + 1 → IRow wr w2.heap.size (if i = k then uu else S i) (uwL T J i) (uwF T J r D i)) := fun i hi => by
            by_cases e : i = k
            · subst e
              rw [if_pos rfl, HLk.out]
              exact owns_mono IR HB24.out.size
            · rw [if_neg e]
              have h4 := HR4.out i (by omega)
              exact owns_only h4 BX (fun h => by have := (World.ownsRow.lt h4 ob h).1; omega)
          have Q3 : Hid (∀ i j', i < j' → j' < k + 1 → ∀ x y, (if i = k then uu else S i).ownBlock = some x → (if j' = k then uu else S j').ownBlock = some y → x < y) := fun i j' hij hj' x y hx hy => by
            rw [if_neg (by omega)] at hx
            by_cases e : j' = k
            · rw [if_pos e] at hy
              have := Hlt.out i (by omega) x hx
              have := (World.ownsRow.lt IR y hy).1
              omega
            · rw [if_neg e] at hy
              exact HI.out i j' hij (by omega) x y hx hy
          have Q4 : Hid (Only ob w2 wr) := HB24.out.trans BX
          clear OX IR BX HR4 Hlt HB24 HO4 HD4 HC
          go_wp2
          go_roundw
          case rel => exact ⟨k + 1, fun i => if i = k then uu else S i, by omega, by go_num, Q0.out, Q2.out, Q3.out, Q4.out⟩
          case measure => simp [intOf]; omega
    · have hkk : k = n := by omega
      have k1 : ¬ (k : Int) < (n : Int) := by omega
      have hs : SaysU w n (uwL T J) (uwF T J r D) true (.returned (.tuple #[.slice (some ⟨ob, 0, none⟩) n n, .bool true])) wr := by
        subst hkk
        refine ⟨_, S, rfl, ⟨Or.inr ⟨ob, k, rfl, OU.mono (Nat.le_refl _) (fun i hi => by rw [if_pos hi])⟩, fun i hi => (HR.out i hi).row⟩, ⟨fun i j hi hj hij x hx hy => ?_, fun i hi x hx hy => ?_⟩, fun x hx => ?_, fun i hi x hx => ?_, B02.trans (B.below lw (by have := lo2; omega))⟩
        · rcases Nat.lt_or_gt_of_ne hij with h | h
          · have := HI.out i j h hj x x hx hy; omega
          · have := HI.out j i h hi x x hy hx; omega
        · have := (World.ownsRow.lt (HR.out i hi) x hx).1; simp [Value.ownBlock] at hy; omega
        · simp [Value.ownBlock] at hx; omega
        · have := (World.ownsRow.lt (HR.out i hi) x hx).1; have := B02.size; omega
      have HS : Hid (SaysU w n (uwL T J) (uwF T J r D) true (.returned (.tuple #[.slice (some ⟨ob, 0, none⟩) n n, .bool true])) wr) := hs
      clear hs OU hkk
      go_wp2
      exact bodyPost_ret (v := .tuple #[.slice (some ⟨ob, 0, none⟩) n n, .bool true]) (by simp [results, Try.results35, go_sem]) rfl HS.out
end Go.Proofs.Yteakeaclpcgopaa
