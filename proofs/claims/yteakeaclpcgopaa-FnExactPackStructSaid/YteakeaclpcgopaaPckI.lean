/- The program's PackStruct; conditions: names at most 2^20 long, the rows in memory, words of 32 bits. -/
import Derived.Test.YteakeaclpcgopaaPckF
import Derived.Test.YteakeaclpcgopaaLayS
import Derived.Laws.CopyOwn
namespace Go.Proofs.Yteakeaclpcgopaa
open Go.ChangeShapes Go.WideShapes Go.ChangeAt Go.RowKit
open Tk (Own Only)
set_option linter.unusedVariables false
theorem step_callB {P : Program} {ops : Array Oper} {o : Oper} {a : Act} {w : World} {K : Act → World → Prop} {Q : Exit → Act → World → Prop} {E : Prop} (f : FuncId) (args : Array Value) (R : Value → World → Prop) (hgd : o.guard = none) (hrun : (execOp a.eval o).run P w = .ok (.enter f args) w) (h : Calls P f args w fun e w' => ∃ v, e = .returned v ∧ R v w') (hK : ∀ v w', R v w' → K (a.put o.dst v) w') : if Region.wanted o (yielded ops a.tmps) = true then Oper.wp P o a w K Q else E := by
  have hw : Region.wanted o (yielded ops a.tmps) = true := by simp [Region.wanted, hgd]
  rw [if_pos hw]
  unfold Oper.wp
  rw [hrun, Oper.upon_enter]
  refine h.mono ?_
  rintro e w' ⟨v, rfl, hR⟩
  exact hK v w' hR
theorem step_copy_row {P : Program} {ops : Array Oper} {o : Oper} {a : Act} {w : World} {K : Act → World → Prop} {Q : Exit → Act → World → Prop} {E : Prop} (hgd : o.guard = none) (d s : Operand) (dT sT : TypeId)
    (ho : o.op = .call { callee := .builtin .copy, args := #[d, s], argTypes := #[dT, sT] }) (elem : TypeId) (hu : P.underlying dT = some (.slice elem)) (hsz : (P.info? elem).map (·.size) = some 1)
    (g off dLen dCap : Nat) (ad : Addr) (sLen sCap : Nat) (hd : a.eval d = .slice (some ⟨g, off, none⟩) dLen dCap) (hs : a.eval s = .slice (some ad) sLen sCap)
    (cur : Array Value) (t : TypeId) (hg : w.heap[g]? = some (.cells cur t (0, 0))) (cs : List Value) (hn : cs.length = Nat.min sLen dLen)
    (hsrc : ∀ j v, cs[j]? = some v → w.cell? (ad.add j) = some v) (hfit : off + cs.length ≤ cur.size) (h1 : ∀ v ∈ cs, v.oneCell' = true)
    (W : World) (hW : W = w.setRow g (cur.toList.take off ++ cs ++ cur.toList.drop (off + cs.length)).toArray)
    (h : K (a.put o.dst (goInt cs.length)) W) : if Region.wanted o (yielded ops a.tmps) = true then Oper.wp P o a w K Q else E := by
  have hw : Region.wanted o (yielded ops a.tmps) = true := by simp [Region.wanted, hgd]
  rw [if_pos hw]
  subst hW
  have hrun := run_copy_row (P := P) w dT sT o.type elem g off dLen dCap ad sLen sCap cur t cs hu hsz hg hn hsrc hfit h1
  unfold Oper.wp
  simp only [execOp, ho, resolve, invoke, builtin]
  simp [hd, hs, hrun, Result.andThen]
  simp only [List.append_assoc] at h
  exact h
theorem rng_at {f : Nat → Value} {W j : Nat} {u : Value} (h : ((List.range W).map f)[j]? = some u) : j < W ∧ f j = u := by
  by_cases hj : j < W
  · simp [hj] at h
    exact ⟨hj, h⟩
  · rw [List.getElem?_eq_none (by simp; omega)] at h
    cases h
/-- The bytes' block. -/
def Blk (w : World) (b m : Nat) (P : Nat → Int) : Prop := w.heap[b]? = some (.cells ((List.range m).map fun x => Value.int .u8 (P x)).toArray 5 (0, 0))
theorem Blk.lt {w : World} {b m : Nat} {P : Nat → Int} (h : Blk w b m P) : b < w.heap.size := (Array.getElem?_eq_some_iff.1 h).1
theorem Blk.own {w : World} {b m : Nat} {P : Nat → Int} (h : Blk w b m P) : Own w b m (fun x => .int .u8 (P x)) :=
  ⟨fun i hi => by rw [cell_of_heap7 h]; simp [hi], fun i => by simp [World.frozen?, show w.heap[b]? = _ from h], h.lt⟩
theorem Blk.next {w w' : World} {b m : Nat} {P : Nat → Int} (h : Blk w b m P) (B : Below w.heap.size w w') : Blk w' b m P := (B.block b h.lt).trans h
theorem blk_made {w : World} {B g m : Nat} {xs : List Value} {P : Nat → Int} (h : w.ownsRow B 5 1 (.slice (some ⟨g, 0, none⟩) m m) m xs) (O : Own w g m (fun x => .int .u8 (P x))) : Blk w g m P := by
  obtain ⟨hl, h | ⟨g', cap, cur, e, _, hg, _, _, hs, ht⟩⟩ := h
  · cases h.1
  · injection e with e1 e2 e3
    injection e1 with e1
    injection e1 with e1
    subst e1 e3
    unfold Blk
    rw [hg]
    have e4 : cur = ((List.range m).map fun x => Value.int .u8 (P x)).toArray := by
      apply Array.ext'
      apply List.ext_getElem?
      intro i
      by_cases hi : i < m
      · have h1 := O.cell i hi
        rw [cell_of_heap7 hg] at h1
        rw [Array.getElem?_toList, h1]
        simp [hi]
      · rw [List.getElem?_eq_none (by simp; omega), List.getElem?_eq_none (by simp; omega)]
    rw [e4]
theorem splice_rng (f g : Nat → Value) (q W m : Nat) (h : q + W ≤ m) : ((List.range m).map f).take q ++ (List.range W).map g ++ ((List.range m).map f).drop (q + W) = (List.range m).map (fun x => if q ≤ x ∧ x < q + W then g (x - q) else f x) := by
  rw [List.append_assoc]
  apply List.ext_getElem
  · simp; omega
  · intro i h1 h2
    simp at h2
    by_cases a1 : i < q
    · rw [List.getElem_append_left (by simp; omega)]
      simp
      intro _ _
      omega
    · by_cases a2 : i < q + W
      · rw [List.getElem_append_right (by simp; omega), List.getElem_append_left (by simp; omega)]
        simp
        rw [if_pos (by omega), show min q m = q by omega]
      · rw [List.getElem_append_right (by simp; omega), List.getElem_append_right (by simp; omega)]
        simp
        rw [if_neg (by omega)]
        congr 1
        omega
theorem blk_copy {w : World} {b m q W : Nat} {P : Nat → Int} {v : Int} (h : Blk w b m P) (hq : q + W ≤ m) (cs : List Value) (hcs : cs = (List.range W).map fun j => Value.int .u8 (byteOf v j)) : Blk (w.setRow b (((List.range m).map fun x => Value.int .u8 (P x)).toArray.toList.take q ++ cs ++ ((List.range m).map fun x => Value.int .u8 (P x)).toArray.toList.drop (q + cs.length)).toArray) b m (wrP P q v W) := by
  unfold Blk
  rw [setRow_heap w b _ _ 5 (0, 0) h]
  subst hcs
  congr 2
  rw [List.length_map, List.length_range]
  have e := splice_rng (fun x => .int .u8 (P x)) (fun j => .int .u8 (byteOf v j)) q W m hq
  rw [e]
  congr 1
  apply List.map_congr_left
  intro x _
  unfold wrP
  split <;> rfl
theorem only_setRow (w : World) (b : Nat) (cs : Array Value) : Only b w (w.setRow b cs) := ⟨rfl, rfl, rfl, by simp, fun k _ hne => setRow_other w b k cs hne⟩
set_option maxRecDepth 100000 in
set_option maxHeartbeats 40000000 in
theorem pack27 (n a b : Nat) (K T : Nat → ByteArray) (J : Nat → Int) (G L : Nat → Nat) (V : Nat → Nat → Int) (r : Int) (w : World) (X : Row3 w a n K T J) (hn : n ≤ 1048576) (hK : ∀ i, i < n → (K i).size ≤ 1048576) (Y : RowsG w b n G L V) (hL : ∀ i, i < n → L i ≤ 1048576) (hV : ∀ i j, 0 ≤ V i j ∧ V i j < 4294967296) (hok : okL K T J r n = true) (Q : Ending → World → Prop) (HNo : Hid (¬ GoodV T J n L V → ∀ w', Below w.heap.size w w' → Q (.returned (.tuple #[.slice none 0 0, .bool false])) w')) (HYes : Hid (GoodV T J n L V → ∀ w' g c, Own w' g (laySz T J r n).toNat (fun x => .int .u8 (piP T J r V n x)) → w.heap.size ≤ g → Below w.heap.size w w' → Q (.returned (.tuple #[.slice (some ⟨g, 0, none⟩) (laySz T J r n).toNat c, .bool true])) w')) : Calls Try.prog 27 #[.slice (some ⟨a, 0, none⟩) n n, .int .i64 r, .slice (some ⟨b, 0, none⟩) n n] w Q := by
  have HLL : Hid (Calls Try.prog 17 #[.slice (some ⟨a, 0, none⟩) n n, .int .i64 r] w (SaysL w (spotsL K T J r n) (laySz T J r n) (layAl T J r n) true)) := by
    have h := layout17 n a K T J r w X hn hK
    rw [hok] at h
    exact h
  obtain ⟨hr, n1, n12, hall⟩ := ok_good hok
  have HNI : Hid (∀ i j, i < n → j < cntN (kOf (T i)) (J i) → 0 ≤ offF T J r i + plc (kOf (T i)) (J i) r j ∧ offF T J r i + plc (kOf (T i)) (J i) r j + wid (kOf (T i)) ≤ laySz T J r n) := fun i j hi hj => num_in K T J r hr n hall n1 n12 i j hi hj
  have lz := lay_ge K T J r hr n hall n1 n12
  have ln0 := (end_bounds K T J r hr n hall n (Nat.le_refl _) n12).1
  obtain ⟨m, hm⟩ : ∃ m : Nat, laySz T J r n = (m : Int) := ⟨(laySz T J r n).toNat, by omega⟩
  have mb : m ≤ 200000 := by omega
  rw [show (laySz T J r n).toNat = m by omega] at HYes
  rw [hm] at HLL HNI
  clear hm lz ln0
  generalize layAl T J r n = AL at *
  obtain ⟨i5', hi5, hz50, hz51, hz52⟩ := info_parts info5'
  have H68 : Hid (∀ w', Below w.heap.size w w' → Calls Try.prog 68 #[.slice (some ⟨a, 0, none⟩) n n, .slice (some ⟨b, 0, none⟩) n n, .func (.func 69) #[] #[]] w' fun e w'' => ∃ B : Bool, e = .returned (.bool B) ∧ Is8 B (PV n n T J L V) ∧ Below w'.heap.size w' w'') := fun w' bb => equal68 n a b n K T J G L V w' (X.next bb) hn (Y.next bb) hL hV (fun i hi => by obtain ⟨_, gk, g0, g1, _⟩ := allG_at K T J n hall i hi; exact ⟨gk, g0, g1⟩)
  by_cases hG : GoodV T J n L V
  case neg =>
    have HGv : Hid (∀ B, Is8 B (PV n n T J L V) → B = false) := fun B h => by
      cases B
      · rfl
      · exact absurd (h.1 rfl).2 hG
    have HQ : Hid (∀ w', Below w.heap.size w w' → Q (.returned (.tuple #[.slice none 0 0, .bool false])) w') := HNo.out hG
    clear hG HNo HYes
    go_enter Try.func27, Try.ntmps27
    go_wp2_with (first | (go_at_call 17; refine HLL.out.mono ?_; rintro e w1 ⟨v, rfl, V1, gv, B1⟩; (rw [spotsL_len] at V1); (obtain ⟨g, cp, rfl, RS⟩ : ∃ g cp, v = .slice (some ⟨g, 0, none⟩) n cp ∧ RowS w1 g n (atS0 (spotsL K T J r n)) (atS1 (spotsL K T J r n)) (atS2 (spotsL K T J r n)) (atS3 (spotsL K T J r n)) := V1.resolve_left (fun h => by omega)); (have b1a : Below w.heap.size w (w1.alloc (.cells #[.slice (some ⟨g, 0, none⟩) n cp, .int .i64 m, .int .i64 AL] 34)) := B1.alloc B1.size _)) | (go_at_call 68; refine (H68.out _ b1a).mono ?_; rintro e w2 ⟨B', rfl, hB', B2⟩; (obtain rfl : B' = false := HGv.out B' hB'); (clear hB'); (have Y2 := (C3.new w1 (.slice (some ⟨g, 0, none⟩) n cp) (.int .i64 m) (.int .i64 AL) 34).next B2); (have y20 := Y2.c0); (have y21 := Y2.c1)))
    exact HQ.out _ (b1a.trans (B2.mono b1a.size))
  have HGv : Hid (∀ B, Is8 B (PV n n T J L V) → B = true) := fun B h => h.2 ⟨rfl, hG⟩
  have HFit : Hid (∀ k, k < n → L k = cntN (kOf (T k)) (J k)) := fun k hk => (hG k hk).1
  have HQ : Hid (∀ w' g c, Own w' g m (fun x => .int .u8 (piP T J r V n x)) → w.heap.size ≤ g → Below w.heap.size w w' → Q (.returned (.tuple #[.slice (some ⟨g, 0, none⟩) m c, .bool true])) w') := HYes.out hG
  have hm0 : (0 : Int) ≤ (m : Int) := by omega
  clear hG HNo HYes
  go_enter Try.func27, Try.ntmps27
  go_wp2_with (first | (go_at_call 17; refine HLL.out.mono ?_; rintro e w1 ⟨v, rfl, V1, gv, B1⟩; (rw [spotsL_len] at V1); (obtain ⟨g, cp, rfl, RS⟩ : ∃ g cp, v = .slice (some ⟨g, 0, none⟩) n cp ∧ RowS w1 g n (atS0 (spotsL K T J r n)) (atS1 (spotsL K T J r n)) (atS2 (spotsL K T J r n)) (atS3 (spotsL K T J r n)) := V1.resolve_left (fun h => by omega)); (have b1a : Below w.heap.size w (w1.alloc (.cells #[.slice (some ⟨g, 0, none⟩) n cp, .int .i64 m, .int .i64 AL] 34)) := B1.alloc B1.size _)) | (go_at_call 68; refine (H68.out _ b1a).mono ?_; rintro e w2 ⟨B', rfl, hB', B2⟩; (obtain rfl : B' = true := HGv.out B' hB'); (clear hB'); (have Y2 := (C3.new w1 (.slice (some ⟨g, 0, none⟩) n cp) (.int .i64 m) (.int .i64 AL) 34).next B2); (have y20 := Y2.c0); (have y21 := Y2.c1)) | (at_make; refine wpList_make_full _ rfl _ _ 46 rfl w2.heap.size 5 i5' (.int .u8 0) 1 Try.underlying46 hi5 hz50 hz51 _ _ _ _ m rfl rfl (by first | rfl | omega) (by first | rfl | omega) (by rw [hz52]; omega) (by unfold maxLen; omega) (by simp) ?_; intro w3 hown3 hgrow3))
  have O3 : Own w3 w2.heap.size m (fun _ => .int .u8 0) := Tk.own_made (w := w2) (z := .int .u8 0) hown3
  have K3 : Blk w3 w2.heap.size m (fun _ => 0) := blk_made hown3 O3
  have B23 : Below w2.heap.size w2 w3 := (Below.refl _ _).grown hgrow3 (by simp) (by simp)
  have Y8 := Y2.next B23
  have R0 := ((RS.next (alloc_b (o := .cells #[.slice (some ⟨g, 0, none⟩) n cp, .int .i64 m, .int .i64 AL] 34))).next B2).next B23
  have X0 := RowF.of ((((X.next B1).next (alloc_b (o := .cells #[.slice (some ⟨g, 0, none⟩) n cp, .int .i64 m, .int .i64 AL] 34))).next B2).next B23)
  have D0 := (((Y.next B1).next (alloc_b (o := .cells #[.slice (some ⟨g, 0, none⟩) n cp, .int .i64 m, .int .i64 AL] 34))).next B2).next B23
  have B02 : Below w.heap.size w w2 := b1a.trans (B2.mono b1a.size)
  have B03 : Below w.heap.size w w3 := B02.trans (B23.mono B02.size)
  have HGw : Hid (∀ i, i < n → G i < w.heap.size) := fun i hi => (Y.row i hi).hi
  obtain ⟨ob, hob⟩ : ∃ x, w2.heap.size = x := ⟨_, rfl⟩
  obtain ⟨o8, ho8⟩ : ∃ x, w1.heap.size = x := ⟨_, rfl⟩
  have s2 : w1.heap.size + 1 ≤ w2.heap.size := by have := B2.size; rw [World.size_alloc] at this; exact this
  have l8 : o8 < ob := by omega
  have la : a < ob := by have := X.hi; have := B1.size; omega
  have lg : g < ob := by have := RS.hi; omega
  have lb : b < ob := by have := Y.top.hi; have := B1.size; omega
  have lw : w.heap.size ≤ ob := by have := B1.size; omega
  rw [hob] at K3 ⊢
  rw [ho8] at Y8 ⊢
  have lo3 : ob < w3.heap.size := K3.lt
  have HGo : Hid (∀ i, i < n → G i < ob) := fun i hi => by have := HGw.out i hi; omega
  clear hob ho8 RS gv V1 B1 hown3 hgrow3 B23 HGw O3 Y2 y20 y21 B2 b1a s2
  go_wp2
  go_loopw [36] (fun i wr => ∃ (k : Nat), k ≤ n ∧ i = .int .i64 k ∧ Blk wr ob m (piP T J r V k) ∧ Only ob w3 wr) (fun i _ => n - (intOf i).toNat)
  case atStart => exact ⟨0, by omega, rfl, K3, Only.refl _ _⟩
  case round =>
    obtain ⟨k, hk, rfl, OU, B⟩ := hrel
    by_cases hkn : k < n
    · have i1 : (k : Int) < (n : Int) := by omega
      have i0 : (0 : Int) ≤ (k : Int) := by omega
      obtain ⟨gn, gk, gj0, gj1, gi⟩ := allG_at K T J n hall k hkn
      have oe := off_end K T J r hr n hall n12 k hkn
      have cb := cnt_bounds (kOf (T k)) (J k) gk gj0 gj1
      have w24 := w_two (kOf (T k)) gk
      have XX := X0.grown (only_grown B) (fun e => by injection e with e; omega)
      have c0 := XX.c0 k hkn
      have c1 := XX.c1 k hkn
      have c2 := XX.c2 k hkn
      have RX := R0.grown (only_grown B) (fun e => by injection e with e; omega)
      have YX := Y8.grown (only_grown B) (fun e => by injection e with e; omega)
      have DX := D0.but B lb HGo.out
      have e1 := (at_spots K T J r n k hkn).2.1
      have lwr : w3.heap.size ≤ wr.heap.size := B.size
      have hLk := HFit.out k hkn
      have H64 : Hid (∀ w, Calls Try.prog 64 #[.string (T k)] w fun e w' => e = .returned (.agg #[.int .i64 (cols (kOf (T k))), .int .i64 (nums (kOf (T k))), .int .i64 (wid (kOf (T k)))]) ∧ Below w.heap.size w w') := fun w => shape64 (T k) w
      have H65 : Hid (∀ w, Calls Try.prog 65 #[.agg #[.string (K k), .string (T k), .int .i64 (J k)], .int .i64 r] w fun e w' => ∃ v, e = .returned v ∧ RowI w' w.heap.size v (cntN (kOf (T k)) (J k)) (plc (kOf (T k)) (J k) r) ∧ Below w.heap.size w w') := fun w => places65 (K k) (T k) (J k) r w gk hr gj0 gj1
      have HNk : Hid (∀ j, j < cntN (kOf (T k)) (J k) → 0 ≤ plc (kOf (T k)) (J k) r j ∧ offF T J r k + plc (kOf (T k)) (J k) r j + wid (kOf (T k)) ≤ (m : Int)) := fun j hj => ⟨(plc_in (kOf (T k)) (J k) r gk hr gj0 gj1 j hj).1, (HNI.out k j hkn hj).2⟩
      have HPi : Hid (piP T J r V (k + 1) = pjP (fun j => (offF T J r k + plc (kOf (T k)) (J k) r j).toNat) (wid (kOf (T k))).toNat (V k) (piP T J r V k) (cntN (kOf (T k)) (J k))) := rfl
      have hoff := (HNI.out k 0 hkn (by omega)).2
      have hp0 := (plc_in (kOf (T k)) (J k) r gk hr gj0 gj1 0 (by omega)).1
      have wb := w_bounds (kOf (T k)) gk
      have hRe : Hid (∀ w', Below wr.heap.size wr w' → w'.cell? ⟨g, k * 4 + 1, none⟩ = some (.int .i64 (offF T J r k))) := fun w' bb => by rw [← e1]; exact (RX.next bb).c1 k hkn
      have hY8 : Hid (∀ w', Below wr.heap.size wr w' → w'.cell? ⟨o8, 0, none⟩ = some (.slice (some ⟨g, 0, none⟩) n cp)) := fun w' bb => (YX.next bb).c0
      obtain ⟨PI, hPI⟩ : ∃ x, piP T J r V k = x := ⟨_, rfl⟩
      rw [hPI] at HPi OU
      have HOU : Hid (Blk wr ob m PI) := OU
      have HDX : Hid (RowsG wr b n G L V) := DX
      obtain ⟨oq, hoq⟩ : ∃ q : Nat, offF T J r k = (q : Int) := ⟨(offF T J r k).toNat, by omega⟩
      rw [hoq] at HNk HPi hRe hoff
      have hoqm : (oq : Int) ≤ (m : Int) := by omega
      have hmo : ¬ m = oq := by omega
      generalize plc (kOf (T k)) (J k) r = P at *
      generalize cntN (kOf (T k)) (J k) = CC at *
      generalize cols (kOf (T k)) = q1 at *
      generalize nums (kOf (T k)) = q2 at *
      generalize wid (kOf (T k)) = W at *
      obtain ⟨W', hW'⟩ : ∃ W' : Nat, W = (W' : Int) := ⟨W.toNat, by omega⟩
      have hW2 : W' = 2 ∨ W' = 4 := by omega
      subst hW'
      rw [show ((W' : Int)).toNat = W' from rfl] at HPi
      have hf2 : ∀ w : World, (Instr.field 89 (.agg #[.int .i64 q1, .int .i64 q2, .int .i64 W']) 2).run Try.prog w = .ok (.int .i64 W') w := fun _ => by kernel_rfl
      have HLk : Hid (L k = CC) := hLk
      clear XX RX YX DX e1 gn gi oe OU hoq hoff hp0 hLk
      go_wp2_with (first | (go_at_call 64; refine (H64.out _).mono ?_; rintro e w4 ⟨rfl, B4⟩; (have b4 : Below wr.heap.size wr w4 := alloc_b.trans (B4.mono (by simp))); (obtain ⟨f0, f1, f2, _, _, _, _⟩ := (C3.new wr (.string (K k)) (.string (T k)) (.int .i64 (J k)) 61).next B4); (have y8 := hY8.out w4 b4); (have yo := hRe.out w4 b4)) | (go_at_call 65; refine (H65.out _).mono ?_; rintro e w5 ⟨vv, rfl, RI, B5⟩; (obtain ⟨g2, cp2, rfl, hg2, hg3⟩ := World.ownsRow.form RI (by omega))))
      have OW := Tk.own_owned RI (fun j => .int .i64 (P j)) (fun j hj => by simp [hj])
      have HC : Hid (∀ j, j < CC → w5.cell? ⟨g2, j, none⟩ = some (.int .i64 (P j))) := OW.cell
      have Bw5 : Below wr.heap.size wr w5 := b4.trans (B5.mono b4.size)
      have HO5 : Hid (Blk w5 ob m PI) := HOU.out.next Bw5
      have HD5 : Hid (RowsG w5 b n G L V) := HDX.out.next Bw5
      have HB35 : Hid (Only ob w3 w5) := B.trans (Only.ofBelow Bw5)
      have hg2o : ob < g2 := by have := b4.size; omega
      have lo5 : ob < w5.heap.size := HO5.out.lt
      have d5 := HD5.out.top.cell k hkn
      have HYk : Hid (∀ j, j < L k → w5.cell? ⟨G k, j, none⟩ = some (.int .u32 (V k j))) := (HD5.out.row k hkn).cell
      have lGk : G k < ob := HGo.out k hkn
      clear OW RI B4 B5 b4 Bw5 f0 f1 f2 y8 yo c0 c1 c2 hf2 hg2 hg3 HOU HDX B
      obtain ⟨M, hM⟩ : ∃ M, m - oq = M := ⟨_, rfl⟩
      rw [hM]
      go_loopw [57] (fun i wx => ∃ (j : Nat), j ≤ CC ∧ i = .int .i64 j ∧ Blk wx ob m (pjP (fun j => ((oq : Int) + P j).toNat) W' (V k) PI j) ∧ Only ob w5 wx) (fun i _ => CC - (intOf i).toNat)
      case atStart => exact ⟨0, by omega, rfl, HO5.out, Only.refl _ _⟩
      case round =>
        obtain ⟨j, hj, rfl, OX, BX⟩ := hrel
        by_cases hjn : j < CC
        · have j1 : (j : Int) < (CC : Int) := by omega
          have j0 : (0 : Int) ≤ (j : Int) := by omega
          have jL : (j : Int) < (L k : Int) := by have := HLk.out; omega
          have pb := HNk.out j hjn
          have v0 := only_cell BX (HC.out j hjn) (by omega)
          have v6 := only_cell BX d5 (by omega)
          have v7 := only_cell BX (HYk.out j (by omega)) (by omega)
          have hvb := hV k j
          obtain ⟨VV, hVV⟩ : ∃ x, V k j = x := ⟨_, rfl⟩
          rw [hVV] at v7 hvb
          obtain ⟨q, hq⟩ : ∃ q : Nat, P j = (q : Int) := ⟨(P j).toNat, by omega⟩
          have HPj : Hid (pjP (fun j => ((oq : Int) + P j).toNat) W' (V k) PI (j + 1) = wrP (pjP (fun j => ((oq : Int) + P j).toNat) W' (V k) PI j) (oq + q) VV W') := by
            show pjP _ _ _ _ (j + 1) = _
            rw [pjP, hVV]
            simp only [hq]
            rw [show ((oq : Int) + (q : Int)).toNat = oq + q by omega]
          rw [hq] at pb v0
          obtain ⟨PJ, hPJ⟩ : ∃ x, pjP (fun j => ((oq : Int) + P j).toNat) W' (V k) PI j = x := ⟨_, rfl⟩
          rw [hPJ] at HPj OX
          have HOX : Hid (Blk wr ob m PJ) := OX
          have HBX : Hid (Only ob w5 wr) := BX
          have lx : w5.heap.size ≤ wr.heap.size := BX.size
          have H70 : Hid (∀ w', Calls Try.prog 70 #[.int .u32 VV, .int .i64 W'] w' fun e w'' => ∃ x, e = .returned x ∧ ∃ g c, x = .slice (some ⟨g, 0, none⟩) W' c ∧ Own w'' g W' (fun b => .int .u8 (byteOf VV b)) ∧ w'.heap.size ≤ g ∧ Below w'.heap.size w' w'') := fun w' => bytes70 VV W' w' hW2 hvb.1 hvb.2
          have f2' : ¬ M = q := by omega
          have f4 : (q : Int) ≤ (M : Int) := by omega
          have f6 : (0 : Int) ≤ (q : Int) := by omega
          have fm : oq + q + W' ≤ m := by omega
          have fmin : Hid (W' = Nat.min W' (M - q)) := (Nat.min_eq_left (show W' ≤ M - q by omega)).symm
          have dr : Below wr.heap.size wr wr.drew := (Below.refl _ _).drew
          have hcs : Hid (((List.range W').map fun j => Value.int .u8 (byteOf VV j)).length = W') := by show _ = _; simp
          clear OX BX hq hVV hPJ
          clear X0 R0 D0 Y8 B02 B03 K3 HNI HC HO5 HD5 HYk H64 H65 hRe hY8 HB35 HFit HGv H68 HLL d5
          go_wp2
          go_region_law (first | (refine step_callB 70 #[.int .u32 VV, .int .i64 W'] _ (by rfl) (by go_simp) (H70.out _) ?_; rintro vv6 w6 ⟨g6, c6, rfl, O6, h6, B6⟩; (have K6 := (HOX.out.next dr).next B6)) | (refine step_copy_row (by rfl) _ _ 46 46 (by rfl) 5 Try.underlying46 (by rfl) ob (oq + q) (M - q) (M - q) ⟨g6, 0, none⟩ W' c6 (by rfl) (by rfl) _ 5 K6 ((List.range W').map fun j => Value.int .u8 (byteOf VV j)) (hcs.out.trans fmin.out) (fun j u hj => by (obtain ⟨hjw, rfl⟩ := rng_at hj); (rw [add_plain]); (rw [Nat.zero_add]); exact O6.cell j hjw) (by rw [hcs.out]; simp; omega) (fun u hu => by (simp at hu); (obtain ⟨_, _, rfl⟩ := hu); rfl) _ rfl ?_))
          obtain ⟨WX, hWX⟩ : ∃ x, (w6.setRow ob (List.take (oq + q) (List.map (fun x => Value.int IntKind.u8 (PJ x)) (List.range m)) ++ (List.map (fun j => Value.int IntKind.u8 (byteOf VV j)) (List.range W') ++ List.drop (oq + q + W') (List.map (fun x => Value.int IntKind.u8 (PJ x)) (List.range m)))).toArray) = x := ⟨_, rfl⟩
          have N1 : Hid (Blk WX ob m (pjP (fun j => ((oq : Int) + P j).toNat) W' (V k) PI (j + 1))) := by
            show Blk _ _ _ _
            rw [HPj.out, ← hWX]
            have h := blk_copy (q := oq + q) (W := W') (v := VV) K6 fm _ rfl
            rw [hcs.out, List.append_assoc] at h
            exact h
          have N2 : Hid (Only ob w5 WX) := by
            show Only _ _ _
            rw [← hWX]
            exact ((HBX.out.trans (Only.ofBelow dr)).trans (Only.ofBelow B6)).trans (only_setRow _ _ _)
          rw [hWX]
          clear hWX K6 O6 h6 B6 HOX HBX H70 v0 v6 v7 dr
          go_wp2
          go_roundw
          case rel => exact ⟨j + 1, by omega, by go_num, N1.out, N2.out⟩
          case measure => simp [intOf]; omega
        · have hjj : j = CC := by omega
          have j1 : ¬ (j : Int) < (CC : Int) := by omega
          have QO : Hid (Blk wr ob m (piP T J r V (k + 1))) := by
            show Blk _ _ _ _
            rw [HPi.out, ← hjj]
            exact OX
          have QB : Hid (Only ob w3 wr) := HB35.out.trans BX
          clear OX BX hjj
          go_wp2
          go_roundw
          case rel => exact ⟨k + 1, by omega, by go_num, QO.out, QB.out⟩
          case measure => simp [intOf]; omega
    · have hkk : k = n := by omega
      have k1 : ¬ (k : Int) < (n : Int) := by omega
      have HQ2 : Hid (Q (.returned (.tuple #[.slice (some ⟨ob, 0, none⟩) m m, .bool true])) wr) := HQ.out wr ob m (by rw [← hkk]; exact OU.own) lw (B03.trans (B.below lw (by omega)))
      clear OU hkk
      go_wp2
      exact HQ2.out
end Go.Proofs.Yteakeaclpcgopaa
