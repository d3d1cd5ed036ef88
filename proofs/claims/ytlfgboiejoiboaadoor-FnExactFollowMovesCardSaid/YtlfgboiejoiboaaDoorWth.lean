/- The program's without: instructions are taken out, numbers become those of the same instructions or of the next ones. -/
import Derived.Test.YtlfgboiejoiboaaDoorJnd
import Derived.Test.YtlfgboiejoiboaaDoorTkm
import Derived.Test.YtlfgboiejoiboaaDoorUnr
import Derived.Test.YtlfgboiejoiboaaDoorGd
import Derived.Lib.SliceRun
namespace Go.Proofs.YtlfgboiejoiboaaDoor
open Go.ChangeShapes Go.WideShapes Go.ChangeAt Go.RowKit
set_option linter.unusedVariables false
theorem isnumAll (o : Int) (k : Nat) (hk : k < 5) (v : World) : Calls Tryd.prog 79 #[.int .i64 o, .int .i64 (k : Int)] v fun e w' => e = .returned (.bool (isN o k)) ∧ w' = v := by
  rcases (by omega : k = 0 ∨ k = 1 ∨ k = 2 ∨ k = 3 ∨ k = 4) with rfl | rfl | rfl | rfl | rfl
  · exact isnum72_0 o v
  · exact isnum72_1 o v
  · exact isnum72_2 o v
  · exact isnum72_3 o v
  · exact isnum72_4 o v
theorem isN_0 (o : Int) : isN o 0 = false := by unfold isN; simp
theorem isN_4 (o : Int) : isN o 4 = false := by unfold isN; simp
theorem isN_1 (o : Int) : isN o 1 = (o == 8) := by unfold isN; simp
theorem isN_2 (o : Int) : isN o 2 = (o == 9) := by unfold isN; simp
theorem isN_3 (o : Int) : isN o 3 = (o == 9) := by unfold isN; simp
set_option maxRecDepth 100000 in
set_option maxHeartbeats 2000000 in
theorem ends47_0 (a : Option Addr) (c : Nat) (w : World) : Calls Tryd.prog 47 #[.slice a 0 c] w fun e w' => e = .returned (.bool false) ∧ w' = w := by
  go_enter Tryd.func47, Tryd.ntmps47
  go_wp2
  go_ret
  exact ⟨rfl, rfl⟩
set_option maxRecDepth 100000 in
set_option maxHeartbeats 2000000 in
theorem instr80 (o d a b c x : Int) (w : World) (x0 : 0 ≤ x) (x1 : x < 4294967296) : Calls Tryd.prog 80 #[.int .i64 o, .agg #[.int .i64 d, .int .i64 a, .int .i64 b, .int .i64 c, .int .i64 x]] w fun e w' => e = .returned (.agg #[.int .i64 o, .int .i64 d, .int .i64 a, .int .i64 b, .int .i64 c, .int .u32 x]) ∧ Below w.heap.size w w' := by
  have hx : x % 4294967296 = x := by omega
  go_enter Tryd.func80, Tryd.ntmps80
  go_wp2
  exact bodyPost_ret (v := .agg #[.int .i64 o, .int .i64 d, .int .i64 a, .int .i64 b, .int .i64 c, .int .u32 x]) (by simp [results, Tryd.results80, go_sem]) rfl ⟨rfl, by repeat (first | (with_reducible refine Below.setCell ?_ (by first | omega | (simp; try omega)) _) | (with_reducible refine Below.alloc ?_ (by first | omega | (simp; try omega)) _) | (with_reducible exact Below.refl _ _))⟩
set_option maxRecDepth 100000 in
set_option maxHeartbeats 2000000 in
theorem clone61 (n a cap : Nat) (O D A B C X : Nat → Int) (w : World) (R : RowI w a n O D A B C X) (n0 : 1 ≤ n) (n1 : n ≤ 600) : Calls Tryd.prog 61 #[.slice (some ⟨a, 0, none⟩) n cap] w fun e w' => ∃ g c, e = .returned (.slice (some ⟨g, 0, none⟩) n c) ∧ w.heap.size ≤ g ∧ RowI w' g n O D A B C X ∧ Below w.heap.size w w' := by
  obtain ⟨i5, hi5, hz50, hz51, hz52⟩ := info_parts infoI
  have HR : Hid (RowI w a n O D A B C X) := R
  have H0 : Hid ((w.alloc (.cells #[] 40)).ownsRow w.heap.size 40 6 (.slice (some ⟨w.heap.size, 0, none⟩) 0 0) 0 []) := World.ownsRow_lit w #[] 0 (Nat.le_refl _) (by decide) rfl
  have HRA : Hid (RowI (w.alloc (.cells #[] 40)) a n O D A B C X) := R.next ((Below.refl _ _).alloc (Nat.le_refl _) _)
  have qn : ∀ v : World, (binOp .eql 45 (.slice (some ⟨a, 0, none⟩) n cap) (.slice none 0 0)).run Tryd.prog v = .ok (.bool false) v := fun v => Lib.run_eql_slice_nil v 45 40 (some ⟨a, 0, none⟩) n cap 0 0 Tryd.underlying45
  clear R
  go_enter Tryd.func61, Tryd.ntmps61
  go_wp2_with (at_builtin; refine wpList_append_own _ rfl _ _ 45 rfl w.heap.size 40 i5 (.agg #[.int .i64 0, .int .i64 0, .int .i64 0, .int .i64 0, .int .i64 0, .int .u32 0]) 6 48 Tryd.underlying45 hi5 hz50 hz51 hz52 rfl (by decide) _ _ _ rfl H0.out ⟨a, 0, none⟩ n cap (cellsP O D A B C X n) rfl ?c0 ?c1 ?c2 ?c3 ?c4 ?c5 ?_)
  case c0 => exact cellsP_len O D A B C X n
  case c1 =>
    intro j u hj
    have e : (⟨a, 0, none⟩ : Addr).add j = ⟨a, j, none⟩ := by simp [Addr.add]; intro h; omega
    rw [e]
    exact cells_row HRA.out j u hj
  case c2 => exact cellsP_one O D A B C X n
  case c3 => unfold maxLen; omega
  case c4 => omega
  case c5 => simp
  intro v3 w3 hown hgrow _
  have hown' : w3.ownsRow w.heap.size 40 6 v3 n (cellsP O D A B C X n) := by simpa using hown
  have B3 : Below w.heap.size w w3 := ((Below.refl _ _).alloc (Nat.le_refl _) _).grown hgrow (by simp) (fun q hq => by simp [Value.ownBlock] at hq; omega)
  obtain ⟨g, c, rfl, hg, _⟩ := World.ownsRow.form hown' (by omega)
  have RR : RowI w3 g n O D A B C X := rowI_of hown'
  have hgl := (hown'.lt g rfl).1
  clear hown hgrow hown' H0 HRA
  go_wp2
  go_ret
  exact ⟨g, c, rfl, hgl, RR, B3⟩
/-- A field behind the renumbering. -/
def nvF (Z : Nat → Bool) (n : Nat) (o d a b c x : Int) (f : Nat) : Int := if isN o f then numT Z n (val d a b c x f) else val d a b c x f
set_option maxRecDepth 100000 in
set_option maxHeartbeats 8000000 in
theorem without51 (n a cap s sn sc : Nat) (O D A B C X : Nat → Int) (Ls : List (List Int)) (w : World) (R : RowI w a n O D A B C X) (SR : Sets w s Ls) (hsn : Ls.length = sn) (hb : ∀ L, L ∈ Ls → ∀ t, t ∈ L → 0 ≤ t ∧ t < 600) (s1 : sn ≤ 1000) (m1 : ∀ L, L ∈ Ls → L.length ≤ 4000) (n0 : 1 ≤ n) (n1 : n ≤ 600) (hX : Wds X n) (hT : Tgs O A B C n) : Calls Tryd.prog 51 #[.slice (some ⟨a, 0, none⟩) n cap, .slice (some ⟨s, 0, none⟩) sn sc] w fun e w' => ∃ v, e = .returned v ∧ (TkR w' v O D A B C X (memB Ls.flatten) n ∧ ∀ g, v.ownBlock = some g → w.heap.size ≤ g) ∧ Below w.heap.size w w' := by
  obtain ⟨i5, hi5, hz50, hz51, hz52⟩ := info_parts infoI
  have z44 := zv44
  have z82 := zv82
  have h78 := joined78 s sn sc Ls w hsn SR hb s1 m1
  have HR : Hid (RowI w a n O D A B C X) := R
  have HT : Hid (Tgs O A B C n) := hT
  have HX : Hid (Wds X n) := hX
  clear R SR hsn hb m1 hT hX
  generalize memB Ls.flatten = Z at h78 ⊢
  go_enter Tryd.func51, Tryd.ntmps51
  go_wp2_with (first | (go_at_call 78; refine h78.mono ?_; rintro e w1 ⟨rfl, B1⟩) | (refine wpList_store_own rfl 44 _ _ rfl w1.heap.size rfl 600 _ _ rfl (own_vals w1 (fun _ => .bool false) 600 44) (fun _ => rfl) size44 ?_; intro w2 O2 K2))
  obtain ⟨q5, hq5⟩ : ∃ q5, w1.heap.size = q5 := ⟨_, rfl⟩
  obtain ⟨w3, hw3⟩ : ∃ w3, w2.alloc (.cells (vals (fun _ => .int .i64 0) 600) 82) = w3 := ⟨_, rfl⟩
  obtain ⟨q7, hq7⟩ : ∃ q7, w2.heap.size = q7 := ⟨_, rfl⟩
  have B2 : Below w1.heap.size w1 w2 := ((Below.refl _ _).alloc (Nat.le_refl _) _).trans (K2.below (Nat.le_refl _) (by simp))
  have HQ : Hid (w.heap.size ≤ q5 ∧ q5 < q7) := ⟨by rw [← hq5]; exact B1.size, by rw [← hq7, ← hq5]; exact O2.hi⟩
  have HA3 : Hid (Below w2.heap.size w2 w3) := by show Below _ _ _; rw [← hw3]; exact (Below.refl _ _).alloc (Nat.le_refl _) _
  have HZ3 : Hid (Own w3 q5 600 (fun i => .bool (Z i))) := by show Own _ _ _ _; rw [← hq5]; exact O2.next HA3.out
  have HS3 : Hid (Own w3 q7 600 (fun i => .int .i64 (tofF Z 0 i))) := by
    show Own _ _ _ _
    rw [← hq7, ← hw3]
    exact (own_vals w2 (fun _ => .int .i64 0) 600 82).mono (Nat.le_refl _) (fun i hi => by unfold tofF; rw [if_neg (by omega)])
  have HB3 : Hid (Below w.heap.size w w3) := by
    have B12 := B1.trans (B2.mono B1.size)
    exact B12.trans (HA3.out.mono B12.size)
  have HZ0 : Hid (cntF Z 0 = 0) := rfl
  rw [hw3, hq7, hq5]
  clear hw3 hq7 hq5 HA3 B1 O2 K2 B2 h78
  go_wp2
  go_loopw [6, 19] (fun vv i wr => ∃ (k : Nat) (u : Value), k ≤ n ∧ i = .int .i64 k ∧ u = vv ∧ Hid (wr.ownsRow (q7 + 1) 40 6 u (cntF Z k) (cellsP (fun i => O (kpI Z n i)) (fun i => D (kpI Z n i)) (fun i => A (kpI Z n i)) (fun i => B (kpI Z n i)) (fun i => C (kpI Z n i)) (fun i => X (kpI Z n i)) (cntF Z k))) ∧ Hid (Own wr q7 600 (fun i => .int .i64 (tofF Z k i))) ∧ Hid (Own wr q5 600 (fun i => .bool (Z i))) ∧ Hid (Below w.heap.size w wr)) (fun _ i _ => n - (intOf i).toNat)
  case atStart => exact ⟨0, _, by omega, rfl, rfl, World.ownsRow_nil _ _ _ _, HS3, HZ3, HB3⟩
  case round =>
    obtain ⟨k, u, hk, rfl, rfl, HU, HS, HZ, HB⟩ := hrel
    clear HS3 HZ3 HB3
    obtain ⟨ad, cp, rfl⟩ : ∃ ad cp, u = .slice ad (cntF Z k) cp := by
      rcases HU.out.2 with ⟨h1, h2⟩ | ⟨g, cp, cur, rfl, _⟩
      · rw [h2]; exact ⟨_, _, h1⟩
      · exact ⟨_, _, rfl⟩
    by_cases hkn : k < n
    · have i1 : (k : Int) < (n : Int) := by omega
      have i6 : (k : Int) < 600 := by omega
      have RK := HR.out.next HB.out
      have c0 := RK.c0 k hkn
      have c1 := RK.c1 k hkn
      have c2 := RK.c2 k hkn
      have c3 := RK.c3 k hkn
      have c4 := RK.c4 k hkn
      have c5 := RK.c5 k hkn
      have LW : Hid (q7 < wr.heap.size) := HS.out.hi
      have cs : (wr.alloc (.cells #[.int .i64 (O k), .int .i64 (D k), .int .i64 (A k), .int .i64 (B k), .int .i64 (C k), .int .u32 (X k)] 40)).cell? ⟨q7, k, none⟩ = some (.int .i64 (tofF Z k k)) := cell_nx (HS.out.cell k (by omega)) ((Below.refl _ _).alloc (Nat.le_refl _) _)
      have fz : (wr.alloc (.cells #[.int .i64 (O k), .int .i64 (D k), .int .i64 (A k), .int .i64 (B k), .int .i64 (C k), .int .u32 (X k)] 40)).frozen? ⟨q7, k, none⟩ = false := (HS.out.next ((Below.refl _ _).alloc (Nat.le_refl _) _)).free k
      have S1 : Hid (Own ((wr.alloc (.cells #[.int .i64 (O k), .int .i64 (D k), .int .i64 (A k), .int .i64 (B k), .int .i64 (C k), .int .u32 (X k)] 40)).setCell ⟨q7, k, none⟩ (.int .i64 (cntF Z k : Int))) q7 600 (fun i => .int .i64 (tofF Z (k + 1) i))) := (HS.out.next ((Below.refl _ _).alloc (Nat.le_refl _) _)).set k _ (by omega) (fun i hi => by
        unfold tofF
        by_cases e : i = k
        · subst e; rw [if_pos rfl, if_pos (by omega)]
        · rw [if_neg e]
          by_cases e2 : i < k
          · rw [if_pos e2, if_pos (by omega)]
          · rw [if_neg e2, if_neg (by omega)])
      have ON : Hid (Only q7 (wr.alloc (.cells #[.int .i64 (O k), .int .i64 (D k), .int .i64 (A k), .int .i64 (B k), .int .i64 (C k), .int .u32 (X k)] 40)) ((wr.alloc (.cells #[.int .i64 (O k), .int .i64 (D k), .int .i64 (A k), .int .i64 (B k), .int .i64 (C k), .int .u32 (X k)] 40)).setCell ⟨q7, k, none⟩ (.int .i64 (cntF Z k : Int)))) := (Only.refl _ _).setCell k _
      have B1 : Hid (Below w.heap.size w ((wr.alloc (.cells #[.int .i64 (O k), .int .i64 (D k), .int .i64 (A k), .int .i64 (B k), .int .i64 (C k), .int .u32 (X k)] 40)).setCell ⟨q7, k, none⟩ (.int .i64 (cntF Z k : Int)))) := (HB.out.alloc HB.out.size _).setCell (p := ⟨q7, k, none⟩) (by have := HQ.out; show w.heap.size ≤ q7; omega) _
      have Z1 : Hid (Own ((wr.alloc (.cells #[.int .i64 (O k), .int .i64 (D k), .int .i64 (A k), .int .i64 (B k), .int .i64 (C k), .int .u32 (X k)] 40)).setCell ⟨q7, k, none⟩ (.int .i64 (cntF Z k : Int))) q5 600 (fun i => .bool (Z i))) := (HZ.out.next ((Below.refl _ _).alloc (Nat.le_refl _) _)).but ON.out (by have := HQ.out; omega)
      have U1 : Hid (((wr.alloc (.cells #[.int .i64 (O k), .int .i64 (D k), .int .i64 (A k), .int .i64 (B k), .int .i64 (C k), .int .u32 (X k)] 40)).setCell ⟨q7, k, none⟩ (.int .i64 (cntF Z k : Int))).ownsRow (q7 + 1) 40 6 (.slice ad (cntF Z k) cp) (cntF Z k) (cellsP (fun i => O (kpI Z n i)) (fun i => D (kpI Z n i)) (fun i => A (kpI Z n i)) (fun i => B (kpI Z n i)) (fun i => C (kpI Z n i)) (fun i => X (kpI Z n i)) (cntF Z k))) := (HU.out.alloc _).kept (grown_only ON.out) (by
        cases e : (Value.slice ad (cntF Z k) cp).ownBlock with
        | none => exact Or.inl rfl
        | some g => right; intro q; injection q with q; have := (HU.out.lt g e).1; omega)
      have cz := Z1.out.cell k (by omega)
      have d0 := only_cell ON.out (show (wr.alloc (.cells #[.int .i64 (O k), .int .i64 (D k), .int .i64 (A k), .int .i64 (B k), .int .i64 (C k), .int .u32 (X k)] 40)).cell? ⟨wr.heap.size, 0, none⟩ = some (.int .i64 (O k)) by simp) (by have := LW.out; omega)
      have d1 := only_cell ON.out (show (wr.alloc (.cells #[.int .i64 (O k), .int .i64 (D k), .int .i64 (A k), .int .i64 (B k), .int .i64 (C k), .int .u32 (X k)] 40)).cell? ⟨wr.heap.size, 1, none⟩ = some (.int .i64 (D k)) by simp) (by have := LW.out; omega)
      have d2 := only_cell ON.out (show (wr.alloc (.cells #[.int .i64 (O k), .int .i64 (D k), .int .i64 (A k), .int .i64 (B k), .int .i64 (C k), .int .u32 (X k)] 40)).cell? ⟨wr.heap.size, 2, none⟩ = some (.int .i64 (A k)) by simp) (by have := LW.out; omega)
      have d3 := only_cell ON.out (show (wr.alloc (.cells #[.int .i64 (O k), .int .i64 (D k), .int .i64 (A k), .int .i64 (B k), .int .i64 (C k), .int .u32 (X k)] 40)).cell? ⟨wr.heap.size, 3, none⟩ = some (.int .i64 (B k)) by simp) (by have := LW.out; omega)
      have d4 := only_cell ON.out (show (wr.alloc (.cells #[.int .i64 (O k), .int .i64 (D k), .int .i64 (A k), .int .i64 (B k), .int .i64 (C k), .int .u32 (X k)] 40)).cell? ⟨wr.heap.size, 4, none⟩ = some (.int .i64 (C k)) by simp) (by have := LW.out; omega)
      have d5 := only_cell ON.out (show (wr.alloc (.cells #[.int .i64 (O k), .int .i64 (D k), .int .i64 (A k), .int .i64 (B k), .int .i64 (C k), .int .u32 (X k)] 40)).cell? ⟨wr.heap.size, 5, none⟩ = some (.int .u32 (X k)) by simp) (by have := LW.out; omega)
      have HC : Hid (cntF Z (k + 1) = cntF Z k + (if Z k then 0 else 1)) := rfl
      have HCl : Hid (cntF Z k ≤ 600) := by have := cntF_le Z k; show _ ≤ _; omega
      have HKa : Hid (Z k = false → kpI Z n (cntF Z k) = k) := fun h => by
        have := keepL_at Z k h n hkn
        unfold kpI
        rw [List.getD_eq_getElem?_getD, this]
        rfl
      clear RK HS HB HZ ON HU
      generalize hcn : cntF Z k = cn at U1 S1 B1 Z1 HC HCl HKa cz d0 d1 d2 d3 d4 d5 ⊢
      cases hzk : Z k
      · rw [hzk] at cz
        have HN : Hid (cntF Z (k + 1) = cn + 1) := by show _ = _; rw [HC.out, hzk]; rfl
        have HK := HKa.out hzk
        have NE : some q7 ≠ (Value.slice ad cn cp).ownBlock := by intro e; have := (U1.out.lt _ e.symm).1; omega
        have NE5 : some q5 ≠ (Value.slice ad cn cp).ownBlock := by intro e; have := (U1.out.lt _ e.symm).1; have := HQ.out; omega
        go_wp2_with (at_builtin; refine wpList_append_own _ rfl _ _ 45 rfl (q7 + 1) 40 i5 (.agg #[.int .i64 0, .int .i64 0, .int .i64 0, .int .i64 0, .int .i64 0, .int .u32 0]) 6 48 Tryd.underlying45 hi5 hz50 hz51 hz52 rfl (by decide) _ _ _ rfl (U1.out.alloc _) ⟨_, 0, none⟩ 1 1 [.int .i64 (O k), .int .i64 (D k), .int .i64 (A k), .int .i64 (B k), .int .i64 (C k), .int .u32 (X k)] rfl rfl ?c1 ?c2 ?c3 ?c4 ?c5 ?_)
        case c1 =>
          intro j u hj
          match j, hj with
          | 0, hj => simp at hj; subst hj; simp [Addr.add]; exact alloc_cell _ _ _ _ 0 (by simp)
          | 1, hj => simp at hj; subst hj; simp [Addr.add]; exact alloc_cell _ _ _ _ 1 (by simp)
          | 2, hj => simp at hj; subst hj; simp [Addr.add]; exact alloc_cell _ _ _ _ 2 (by simp)
          | 3, hj => simp at hj; subst hj; simp [Addr.add]; exact alloc_cell _ _ _ _ 3 (by simp)
          | 4, hj => simp at hj; subst hj; simp [Addr.add]; exact alloc_cell _ _ _ _ 4 (by simp)
          | 5, hj => simp at hj; subst hj; simp [Addr.add]; exact alloc_cell _ _ _ _ 5 (by simp)
        case c2 => intro u hu; simp at hu; rcases hu with rfl | rfl | rfl | rfl | rfl | rfl <;> rfl
        case c3 => have := HCl.out; unfold maxLen; omega
        case c4 => have := HCl.out; omega
        case c5 => have := LW.out; simp; omega
        intro v3 w3 hown hgrow _
        have U3 : Hid (w3.ownsRow (q7 + 1) 40 6 v3 (cntF Z (k + 1)) (cellsP (fun i => O (kpI Z n i)) (fun i => D (kpI Z n i)) (fun i => A (kpI Z n i)) (fun i => B (kpI Z n i)) (fun i => C (kpI Z n i)) (fun i => X (kpI Z n i)) (cntF Z (k + 1)))) := by
          rw [HN.out]
          show w3.ownsRow (q7 + 1) 40 6 v3 (cn + 1) (cellsP (fun i => O (kpI Z n i)) (fun i => D (kpI Z n i)) (fun i => A (kpI Z n i)) (fun i => B (kpI Z n i)) (fun i => C (kpI Z n i)) (fun i => X (kpI Z n i)) cn ++ [.int .i64 (O (kpI Z n cn)), .int .i64 (D (kpI Z n cn)), .int .i64 (A (kpI Z n cn)), .int .i64 (B (kpI Z n cn)), .int .i64 (C (kpI Z n cn)), .int .u32 (X (kpI Z n cn))])
          rw [HK]
          exact hown
        have S3 : Hid (Own w3 q7 600 (fun i => .int .i64 (tofF Z (k + 1) i))) := own_grown (S1.out.next ((Below.refl _ _).alloc (Nat.le_refl _) _)) hgrow NE
        have Z3 : Hid (Own w3 q5 600 (fun i => .bool (Z i))) := own_grown (Z1.out.next ((Below.refl _ _).alloc (Nat.le_refl _) _)) hgrow NE5
        have B3 : Hid (Below w.heap.size w w3) := (B1.out.alloc B1.out.size _).grown hgrow (by have := B1.out.size; simp at *; omega) (fun q hq => by have := (U1.out.lt q hq).1; have := HQ.out; omega)
        clear hown hgrow NE NE5 U1 S1 B1 Z1
        go_wp2
        go_roundw
        case rel => exact ⟨k + 1, _, by omega, by go_num, rfl, U3, S3, Z3, B3⟩
        case measure => simp [intOf]; omega
      · rw [hzk] at cz
        have HN : Hid (cntF Z (k + 1) = cn) := by show _ = _; rw [HC.out, hzk]; rfl
        clear hzk
        go_wp2
        go_roundw
        case rel => exact ⟨k + 1, _, by omega, by go_num, rfl, by rw [HN.out]; exact U1, S1, Z1, B1⟩
        case measure => simp [intOf]; omega
    · obtain rfl : k = n := by omega
      have i1 : ¬ (k : Int) < (k : Int) := by omega
      have HRk : Hid (RowI wr a k O D A B C X) := HR.out.next HB.out
      have h61 := clone61 k a cap O D A B C X wr HRk.out n0 n1
      have HN1 : Hid (takB O Z k = false → ∀ (v : World) (g c : Nat), RowI v g k O D A B C X → TkR v (.slice (some ⟨g, 0, none⟩) k c) O D A B C X Z k) := fun h v g c r => by
        have NT := not_take h r
        exact ⟨g, c, by rw [NT.1], NT.2⟩
      by_cases m0 : cntF Z k = 0
      · have HF : Hid (takB O Z k = false) := by show _ = _; unfold takB; rw [m0]; rfl
        rw [m0]
        have h47 := ends47_0 ad cp wr
        clear HU HS HZ HRk
        go_wp2_with (first | (go_at_call 47; refine h47.mono ?_; rintro e w4 ⟨rfl, hw⟩; subst w4) | (go_at_call 61; refine h61.mono ?_; rintro e w5 ⟨g5, c5, rfl, hg5, R5, B5⟩))
        go_ret
        exact ⟨_, rfl, ⟨HN1.out HF.out _ _ _ R5, fun q hq => by simp [Value.ownBlock] at hq; have := HB.out.size; omega⟩, HB.out.trans (B5.mono HB.out.size)⟩
      obtain ⟨g, c, cur, hv, hgB, hgl, _⟩ := HU.out.2.resolve_left (fun h => m0 h.2)
      injection hv with hv1 _ hv3
      subst hv1 hv3
      have hgl : g < wr.heap.size := (Array.getElem?_eq_some_iff.1 hgl).1
      have RW : RowI wr g (cntF Z k) (fun i => O (kpI Z k i)) (fun i => D (kpI Z k i)) (fun i => A (kpI Z k i)) (fun i => B (kpI Z k i)) (fun i => C (kpI Z k i)) (fun i => X (kpI Z k i)) := rowI_of HU.out
      have hm6 : cntF Z k ≤ 600 := by have := cntF_le Z k; omega
      have h47 := ends47 (cntF Z k) g cp _ _ _ _ _ _ wr RW (by omega)
      rw [show (decide (1 ≤ cntF Z k) && lastB (O (kpI Z k (cntF Z k - 1)))) = takB O Z k by
        rw [decide_eq_true (show 1 ≤ cntF Z k by omega)]; unfold takB; rw [decide_eq_true (show 0 < cntF Z k by omega)]; rfl] at h47
      have HKl : Hid (∀ i, i < cntF Z k → kpI Z k i < k) := kpI_lt Z k
      have HTT : Hid (takB O Z k = true → tkN O Z k = cntF Z k ∧ (∀ i, tkP O Z k i = kpI Z k i) ∧ ∀ (b : Bool) (t : Int), tkT O Z k b t = if b then numT Z k t else t) := fun h => ⟨by unfold tkN; rw [h]; rfl, fun i => by unfold tkP; rw [h]; rfl, fun b t => by unfold tkT; rw [h]; cases b <;> rfl⟩
      have HRW : Hid (RowI wr g (cntF Z k) (fun i => O (kpI Z k i)) (fun i => D (kpI Z k i)) (fun i => A (kpI Z k i)) (fun i => B (kpI Z k i)) (fun i => C (kpI Z k i)) (fun i => X (kpI Z k i))) := RW
      clear RW HU HZ
      cases htk : takB O Z k
      · rw [htk] at h47
        have HF : Hid (takB O Z k = false) := htk
        clear HS HRk HRW HTT htk
        go_wp2_with (first | (go_at_call 47; refine h47.mono ?_; rintro e w4 ⟨rfl, hw⟩; subst w4) | (go_at_call 61; refine h61.mono ?_; rintro e w5 ⟨g5, c5, rfl, hg5, R5, B5⟩))
        go_ret
        exact ⟨_, rfl, ⟨HN1.out HF.out _ _ _ R5, fun q hq => by simp [Value.ownBlock] at hq; have := HB.out.size; omega⟩, HB.out.trans (B5.mono HB.out.size)⟩
      rw [htk] at h47
      have HTr : Hid (takB O Z k = true) := htk
      obtain ⟨p, hp⟩ : ∃ p, cntF Z k = p + 1 := ⟨cntF Z k - 1, by omega⟩
      have HP : Hid (cntF Z k = p + 1) := hp
      rw [hp] at h47 hm6 HRW HTT HKl ⊢
      have p1 : p ≤ 599 := by omega
      have HNm : Hid (∀ t : Nat, t < k → (if (p : Int) < tofF Z k t then (p : Int) else tofF Z k t) = numT Z k (t : Int)) := fun t ht => by
        unfold tofF numT
        rw [if_pos ht, HP.out]
        simp only [Int.toNat_natCast, Nat.add_sub_cancel]
        split <;> omega
      clear m0 htk HRk h61 hp
      go_wp2_with (go_at_call 47; refine h47.mono ?_; rintro e w4 ⟨rfl, hw⟩; subst w4)
      have R6 : Hid (RowI wr g (p + 1) (fun i => O (kpI Z k i)) (fun i => D (kpI Z k i)) (fun i => if i < 0 ∧ O (kpI Z k i) = 8 then numT Z k (A (kpI Z k i)) else A (kpI Z k i)) (fun i => if i < 0 ∧ O (kpI Z k i) = 9 then numT Z k (B (kpI Z k i)) else B (kpI Z k i)) (fun i => if i < 0 ∧ O (kpI Z k i) = 9 then numT Z k (C (kpI Z k i)) else C (kpI Z k i)) (fun i => X (kpI Z k i))) := HRW.out.mono (Nat.le_refl _) (fun i hi => rfl) (fun i hi => rfl) (fun i hi => by rw [if_neg (by omega)]) (fun i hi => by rw [if_neg (by omega)]) (fun i hi => by rw [if_neg (by omega)]) (fun i hi => rfl)
      clear HRW h47
      go_loopw [44] (fun i wx => ∃ j : Nat, j ≤ p + 1 ∧ i = .int .i64 j ∧ Hid (RowI wx g (p + 1) (fun i => O (kpI Z k i)) (fun i => D (kpI Z k i)) (fun i => if i < j ∧ O (kpI Z k i) = 8 then numT Z k (A (kpI Z k i)) else A (kpI Z k i)) (fun i => if i < j ∧ O (kpI Z k i) = 9 then numT Z k (B (kpI Z k i)) else B (kpI Z k i)) (fun i => if i < j ∧ O (kpI Z k i) = 9 then numT Z k (C (kpI Z k i)) else C (kpI Z k i)) (fun i => X (kpI Z k i))) ∧ Hid (Own wx q7 600 (fun i => .int .i64 (tofF Z k i))) ∧ Hid (Below w.heap.size w wx)) (fun i _ => p + 1 - (intOf i).toNat)
      case atStart => exact ⟨0, by omega, rfl, R6, HS, HB⟩
      case round =>
        obtain ⟨j, hj, rfl, RJ, SJ, BJ⟩ := hrel
        clear R6 HS HB
        by_cases hjp : j < p + 1
        · have i3' : (j : Int) < ((p + 1 : Nat) : Int) := by omega
          have i3'' : (j : Int) < (p : Int) + 1 := by omega
          have e0 := RJ.out.c0 j hjp
          have e1 := RJ.out.c1 j hjp
          have e2 := RJ.out.c2 j hjp
          have e3 := RJ.out.c3 j hjp
          have e4 := RJ.out.c4 j hjp
          have e5 := RJ.out.c5 j hjp
          rw [if_neg (by omega)] at e2 e3 e4
          have hkj := HKl.out j hjp
          obtain ⟨tA, tB⟩ := HT.out (kpI Z k j) hkj
          obtain ⟨x0, x1⟩ := HX.out (kpI Z k j) hkj
          have HStp : Hid (∀ (o : Int) (f : Nat → Int) (i : Nat), (if i < j + 1 ∧ O (kpI Z k i) = o then numT Z k (f i) else f i) = if i = j then (if O (kpI Z k j) = o then numT Z k (f j) else f j) else (if i < j ∧ O (kpI Z k i) = o then numT Z k (f i) else f i)) := fun o f i => by
            by_cases e : i = j
            · subst e
              rw [if_pos rfl]
              by_cases e3 : O (kpI Z k i) = o
              · rw [if_pos ⟨by omega, e3⟩, if_pos e3]
              · rw [if_neg (fun h => e3 h.2), if_neg e3]
            · rw [if_neg e]
              by_cases e2 : i < j
              · by_cases e3 : O (kpI Z k i) = o
                · rw [if_pos ⟨by omega, e3⟩, if_pos ⟨e2, e3⟩]
                · rw [if_neg (fun h => e3 h.2), if_neg (fun h => e3 h.2)]
              · rw [if_neg (by omega), if_neg (by omega)]
          have HTg : Hid (∀ f, f < 5 → isN (O (kpI Z k j)) f = true → 0 ≤ val (D (kpI Z k j)) (A (kpI Z k j)) (B (kpI Z k j)) (C (kpI Z k j)) (X (kpI Z k j)) f ∧ val (D (kpI Z k j)) (A (kpI Z k j)) (B (kpI Z k j)) (C (kpI Z k j)) (X (kpI Z k j)) f < k) := fun f hf h => by
            rcases (by omega : f = 0 ∨ f = 1 ∨ f = 2 ∨ f = 3 ∨ f = 4) with rfl | rfl | rfl | rfl | rfl
            · rw [isN_0] at h; cases h
            · rw [isN_1] at h; exact tA (by simpa using h)
            · rw [isN_2] at h; exact (tB (by simpa using h)).1
            · rw [isN_3] at h; exact (tB (by simpa using h)).2
            · rw [isN_4] at h; cases h
          have HPut : Hid (∀ (v : World) (n1 n2 n3 : Int), RowI v g (p + 1) (fun i => O (kpI Z k i)) (fun i => D (kpI Z k i)) (fun i => if i < j ∧ O (kpI Z k i) = 8 then numT Z k (A (kpI Z k i)) else A (kpI Z k i)) (fun i => if i < j ∧ O (kpI Z k i) = 9 then numT Z k (B (kpI Z k i)) else B (kpI Z k i)) (fun i => if i < j ∧ O (kpI Z k i) = 9 then numT Z k (C (kpI Z k i)) else C (kpI Z k i)) (fun i => X (kpI Z k i)) → n1 = (if O (kpI Z k j) = 8 then numT Z k (A (kpI Z k j)) else A (kpI Z k j)) → n2 = (if O (kpI Z k j) = 9 then numT Z k (B (kpI Z k j)) else B (kpI Z k j)) → n3 = (if O (kpI Z k j) = 9 then numT Z k (C (kpI Z k j)) else C (kpI Z k j)) → RowI ((((((v.setCell ⟨g, j * 6, none⟩ (.int .i64 (O (kpI Z k j)))).setCell ⟨g, j * 6 + 1, none⟩ (.int .i64 (D (kpI Z k j)))).setCell ⟨g, j * 6 + 2, none⟩ (.int .i64 n1)).setCell ⟨g, j * 6 + 3, none⟩ (.int .i64 n2)).setCell ⟨g, j * 6 + 4, none⟩ (.int .i64 n3)).setCell ⟨g, j * 6 + 5, none⟩ (.int .u32 (X (kpI Z k j)))) g (p + 1) (fun i => O (kpI Z k i)) (fun i => D (kpI Z k i)) (fun i => if i < j + 1 ∧ O (kpI Z k i) = 8 then numT Z k (A (kpI Z k i)) else A (kpI Z k i)) (fun i => if i < j + 1 ∧ O (kpI Z k i) = 9 then numT Z k (B (kpI Z k i)) else B (kpI Z k i)) (fun i => if i < j + 1 ∧ O (kpI Z k i) = 9 then numT Z k (C (kpI Z k i)) else C (kpI Z k i)) (fun i => X (kpI Z k i))) := fun v n1 n2 n3 r h1 h2 h3 => by
            refine ((((((r.set0 j _).set1 j _).set2 j _).set3 j _).set4 j _).set5 j _).mono (Nat.le_refl _) (fun i hi => ?_) (fun i hi => ?_) (fun i hi => ?_) (fun i hi => ?_) (fun i hi => ?_) (fun i hi => ?_)
            · by_cases e : i = j
              · subst e; rw [if_pos rfl]
              · rw [if_neg e]
            · by_cases e : i = j
              · subst e; rw [if_pos rfl]
              · rw [if_neg e]
            · rw [h1]; exact HStp.out 8 (fun i => A (kpI Z k i)) i
            · rw [h2]; exact HStp.out 9 (fun i => B (kpI Z k i)) i
            · rw [h3]; exact HStp.out 9 (fun i => C (kpI Z k i)) i
            · by_cases e : i = j
              · subst e; rw [if_pos rfl]
              · rw [if_neg e]
          clear tA tB HStp
          generalize O (kpI Z k j) = o at e0 HTg HPut
          generalize D (kpI Z k j) = dd at e1 HTg HPut
          generalize A (kpI Z k j) = aa at e2 HTg HPut
          generalize B (kpI Z k j) = bb at e3 HTg HPut
          generalize C (kpI Z k j) = cc at e4 HTg HPut
          generalize X (kpI Z k j) = xx at e5 x0 x1 HTg HPut
          have LW : Hid (q7 < wr.heap.size ∧ g < wr.heap.size) := ⟨SJ.out.hi, RJ.out.hi⟩
          have BA : Hid (Below wr.heap.size wr (wr.alloc (.cells #[.int .i64 o, .int .i64 dd, .int .i64 aa, .int .i64 bb, .int .i64 cc, .int .u32 xx] 40))) := (Below.refl _ _).alloc (Nat.le_refl _) _
          have h71 := vals44 o dd aa bb cc xx (wr.alloc (.cells #[.int .i64 o, .int .i64 dd, .int .i64 aa, .int .i64 bb, .int .i64 cc, .int .u32 xx] 40)) x0 x1
          have HD0 : Hid ((wr.alloc (.cells #[.int .i64 o, .int .i64 dd, .int .i64 aa, .int .i64 bb, .int .i64 cc, .int .u32 xx] 40)).cell? ⟨wr.heap.size, 0, none⟩ = some (.int .i64 o)) := by show _ = _; simp
          go_wp2_with (go_at_call 71; refine h71.mono ?_; rintro e w2 ⟨rfl, B2⟩)
          clear h71 e0 e1 e2 e3 e4 e5
          obtain ⟨V, rfl⟩ : ∃ V, V = wr := ⟨_, rfl⟩
          obtain ⟨W3, hW3⟩ : ∃ W3, w2.alloc (.cells #[.int .i64 dd, .int .i64 aa, .int .i64 bb, .int .i64 cc, .int .i64 xx] 74) = W3 := ⟨_, rfl⟩
          obtain ⟨q2, hq2⟩ : ∃ q2, w2.heap.size = q2 := ⟨_, rfl⟩
          have HB23 : Hid (Below w2.heap.size w2 W3) := by show Below _ _ _; rw [← hW3]; exact (Below.refl _ _).alloc (Nat.le_refl _) _
          have HV3 : Hid (Below V.heap.size V W3) := by
            have h := BA.out.trans (B2.mono BA.out.size)
            exact h.trans (HB23.out.mono h.size)
          have HQ2 : Hid (V.heap.size < q2) := by have h := B2.size; rw [World.size_alloc] at h; show _ < _; omega
          have HD3 : Hid (W3.cell? ⟨V.heap.size, 0, none⟩ = some (.int .i64 o)) := cell_nx (cell_nx HD0.out B2) HB23.out
          have HO0 : Hid (Own W3 q2 5 (fun i => .int .i64 (if i < 0 then nvF Z k o dd aa bb cc xx i else val dd aa bb cc xx i))) := by
            show Own _ _ _ _
            rw [← hW3, ← hq2]
            refine ⟨fun i hi => ?_, fun i => ?_, by simp⟩
            · rw [World.cell?_alloc_mark, if_neg (by omega)]
              rcases (by omega : i = 0 ∨ i = 1 ∨ i = 2 ∨ i = 3 ∨ i = 4) with rfl | rfl | rfl | rfl | rfl <;> rfl
            · rw [World.frozen?_alloc_mark]
              simp
          have hxi := ixiAll dd aa bb cc xx
          rw [hW3, hq2]
          clear hW3 hq2 HB23 B2 BA HD0
          go_loopw [52] (fun i wx => ∃ f : Nat, f ≤ 5 ∧ i = .int .i64 f ∧ Hid (Own wx q2 5 (fun i => .int .i64 (if i < f then nvF Z k o dd aa bb cc xx i else val dd aa bb cc xx i))) ∧ Hid (Only q2 W3 wx)) (fun i _ => 5 - (intOf i).toNat)
          case atStart => exact ⟨0, by omega, rfl, HO0, Only.refl _ _⟩
          case round =>
            obtain ⟨f, hf, rfl, OF, KF⟩ := hrel
            clear HO0
            by_cases hf5 : f < 5
            · have f5 : (f : Int) < 5 := by omega
              have f0 : (0 : Int) ≤ (f : Int) := by omega
              have hix := fun v => hxi f hf5 v
              have dx := only_cell KF.out HD3.out (by have := HQ2.out; omega)
              have hn := isnumAll o f hf5 wr
              have HNv : Hid (nvF Z k o dd aa bb cc xx f = if isN o f then numT Z k (val dd aa bb cc xx f) else val dd aa bb cc xx f) := rfl
              have HTf := HTg.out f hf5
              have cf := OF.out.cell f hf5
              have ff := OF.out.free f
              rw [if_neg (Nat.lt_irrefl f)] at cf
              have HStep : Hid (∀ i, i ≠ f → (if i < f + 1 then nvF Z k o dd aa bb cc xx i else val dd aa bb cc xx i) = (if i < f then nvF Z k o dd aa bb cc xx i else val dd aa bb cc xx i)) := fun i hi => by
                by_cases e : i < f
                · rw [if_pos e, if_pos (by omega)]
                · rw [if_neg e, if_neg (by omega)]
              clear hxi
              cases hN : isN o f
              · rw [hN] at hn HNv
                have O4 : Hid (Own wr q2 5 (fun i => .int .i64 (if i < f + 1 then nvF Z k o dd aa bb cc xx i else val dd aa bb cc xx i))) := OF.out.mono (Nat.le_refl _) (fun i hi => by
                  by_cases e : i = f
                  · subst e; rw [if_pos (by omega), if_neg (Nat.lt_irrefl i), HNv.out]; rfl
                  · rw [HStep.out i e])
                clear OF HNv HTf hN
                generalize val dd aa bb cc xx f = vf at cf hix
                go_wp2_with (go_at_call 79; refine hn.mono ?_; rintro e w6 ⟨rfl, hw⟩; subst w6)
                go_roundw
                case rel => exact ⟨f + 1, by omega, by go_num, O4, KF⟩
                case measure => simp [intOf]; omega
              · rw [hN] at hn HNv
                obtain ⟨t0, t1⟩ := HTf hN
                obtain ⟨t, ht⟩ : ∃ t : Nat, val dd aa bb cc xx f = (t : Int) := ⟨(val dd aa bb cc xx f).toNat, by omega⟩
                have tk : t < k := by omega
                have t6 : (t : Int) < 600 := by omega
                have t00 : (0 : Int) ≤ (t : Int) := by omega
                have ct := only_cell KF.out (cell_nx (SJ.out.cell t (by omega)) HV3.out) (by have := HQ2.out; have := LW.out; omega)
                have hmin := HNm.out t tk
                have O4 : Hid (Own (wr.setCell ⟨q2, f, none⟩ (.int .i64 (numT Z k (t : Int)))) q2 5 (fun i => .int .i64 (if i < f + 1 then nvF Z k o dd aa bb cc xx i else val dd aa bb cc xx i))) := OF.out.set f _ hf5 (fun i hi => by
                  by_cases e : i = f
                  · subst e; rw [if_pos (by omega), if_pos rfl, HNv.out, ht]; rfl
                  · rw [HStep.out i e, if_neg e])
                have K4 : Hid (Only q2 W3 (wr.setCell ⟨q2, f, none⟩ (.int .i64 (numT Z k (t : Int))))) := KF.out.setCell f _
                rw [ht] at cf hix
                clear OF HNv HTf hN ht t0 t1 KF
                generalize tofF Z k t = tv at ct hmin
                generalize numT Z k (t : Int) = nv at hmin O4 K4
                go_wp2_with (go_at_call 79; refine hn.mono ?_; rintro e w6 ⟨rfl, hw⟩; subst w6)
                go_roundw
                case rel => exact ⟨f + 1, by omega, by go_num, O4, K4⟩
                case measure => simp [intOf]; omega
            · obtain rfl : f = 5 := by omega
              have f5 : ¬ ((5 : Nat) : Int) < 5 := by omega
              have v0 := OF.out.cell 0 (by omega)
              have v1 := OF.out.cell 1 (by omega)
              have v2 := OF.out.cell 2 (by omega)
              have v3 := OF.out.cell 3 (by omega)
              have v4 := OF.out.cell 4 (by omega)
              rw [if_pos (by omega)] at v0 v1 v2 v3 v4
              have n0e : nvF Z k o dd aa bb cc xx 0 = dd := by unfold nvF; rw [isN_0]; rfl
              have n4e : nvF Z k o dd aa bb cc xx 4 = xx := by unfold nvF; rw [isN_4]; rfl
              have n1e : nvF Z k o dd aa bb cc xx 1 = if o = 8 then numT Z k aa else aa := by unfold nvF; rw [isN_1]; by_cases e : o = 8 <;> simp [e, val]
              have n2e : nvF Z k o dd aa bb cc xx 2 = if o = 9 then numT Z k bb else bb := by unfold nvF; rw [isN_2]; by_cases e : o = 9 <;> simp [e, val]
              have n3e : nvF Z k o dd aa bb cc xx 3 = if o = 9 then numT Z k cc else cc := by unfold nvF; rw [isN_3]; by_cases e : o = 9 <;> simp [e, val]
              rw [n0e] at v0
              rw [n4e] at v4
              generalize nvF Z k o dd aa bb cc xx 1 = m1 at v1 n1e
              generalize nvF Z k o dd aa bb cc xx 2 = m2 at v2 n2e
              generalize nvF Z k o dd aa bb cc xx 3 = m3 at v3 n3e
              have dx := only_cell KF.out HD3.out (by have := HQ2.out; omega)
              have h80 := instr80 o dd m1 m2 m3 xx wr x0 x1
              have RX : Hid (RowI wr g (p + 1) (fun i => O (kpI Z k i)) (fun i => D (kpI Z k i)) (fun i => if i < j ∧ O (kpI Z k i) = 8 then numT Z k (A (kpI Z k i)) else A (kpI Z k i)) (fun i => if i < j ∧ O (kpI Z k i) = 9 then numT Z k (B (kpI Z k i)) else B (kpI Z k i)) (fun i => if i < j ∧ O (kpI Z k i) = 9 then numT Z k (C (kpI Z k i)) else C (kpI Z k i)) (fun i => X (kpI Z k i))) := (RJ.out.next HV3.out).grown (grown_only KF.out) (by intro e; injection e with e; have := HQ2.out; have := LW.out; omega)
              have SX : Hid (Own wr q7 600 (fun i => .int .i64 (tofF Z k i))) := (SJ.out.next HV3.out).but KF.out (by have := HQ2.out; have := LW.out; omega)
              have BX : Hid (Below w.heap.size w wr) := (BJ.out.trans (HV3.out.mono BJ.out.size)).trans (KF.out.below (by have := HQ2.out; have := BJ.out.size; omega) (by have := BJ.out.size; have := HV3.out.size; omega))
              have HN123 : Hid (m1 = (if o = 8 then numT Z k aa else aa) ∧ m2 = (if o = 9 then numT Z k bb else bb) ∧ m3 = (if o = 9 then numT Z k cc else cc)) := ⟨n1e, n2e, n3e⟩
              clear OF KF RJ SJ BJ n0e n1e n2e n3e n4e hxi
              go_wp2_with (go_at_call 80; refine h80.mono ?_; rintro e w6 ⟨rfl, B6⟩; have RY := RX.out.next B6; have y0 := RY.c0 j hjp; have y1 := RY.c1 j hjp; have y2 := RY.c2 j hjp; have y3 := RY.c3 j hjp; have y4 := RY.c4 j hjp; have y5 := RY.c5 j hjp; have z0 := RY.free (j * 6); have z1 := RY.free (j * 6 + 1); have z2 := RY.free (j * 6 + 2); have z3 := RY.free (j * 6 + 3); have z4 := RY.free (j * 6 + 4); have z5 := RY.free (j * 6 + 5); clear RY)
              have KW : Only g w6 ((((((w6.setCell ⟨g, j * 6, none⟩ (.int .i64 o)).setCell ⟨g, j * 6 + 1, none⟩ (.int .i64 dd)).setCell ⟨g, j * 6 + 2, none⟩ (.int .i64 m1)).setCell ⟨g, j * 6 + 3, none⟩ (.int .i64 m2)).setCell ⟨g, j * 6 + 4, none⟩ (.int .i64 m3)).setCell ⟨g, j * 6 + 5, none⟩ (.int .u32 xx)) := ((((((Only.refl g w6).setCell _ _).setCell _ _).setCell _ _).setCell _ _).setCell _ _).setCell _ _
              have RW := HPut.out w6 m1 m2 m3 (RX.out.next B6) HN123.out.1 HN123.out.2.1 HN123.out.2.2
              have SW := (SX.out.next B6).but KW (by omega)
              have B06 := BX.out.trans (B6.mono BX.out.size)
              have BW := B06.trans (KW.below (by have := HQ.out; omega) B06.size)
              go_roundw
              case rel => exact ⟨j + 1, by omega, by go_num, RW, SW, BW⟩
              case measure => simp [intOf]; omega
        · obtain rfl : j = p + 1 := by omega
          have i3' : ¬ ((p + 1 : Nat) : Int) < ((p + 1 : Nat) : Int) := by omega
          have HE : Hid (TkR wr (.slice (some ⟨g, 0, none⟩) (p + 1) cp) O D A B C X Z k) := by
            obtain ⟨t1, t2, t3⟩ := HTT.out HTr.out
            refine ⟨g, cp, by rw [t1], ?_⟩
            rw [t1]
            have tAf : ∀ (f : Nat → Int) (o : Int) (i : Nat), i < p + 1 → tkT O Z k (O (tkP O Z k i) == o) (f (tkP O Z k i)) = if i < p + 1 ∧ O (kpI Z k i) = o then numT Z k (f (kpI Z k i)) else f (kpI Z k i) := fun f o i hi => by
              rw [t3, t2]
              by_cases e : O (kpI Z k i) = o
              · simp [e, hi]
              · simp [e]
            exact RJ.out.mono (Nat.le_refl _) (fun i hi => by show O _ = O _; rw [t2]) (fun i hi => by show D _ = D _; rw [t2]) (fun i hi => tAf A 8 i hi) (fun i hi => tAf B 9 i hi) (fun i hi => tAf C 9 i hi) (fun i hi => by show X _ = X _; rw [t2])
          clear RJ SJ
          go_wp2
          go_ret
          exact ⟨_, rfl, ⟨HE.out, fun q hq => by simp [Value.ownBlock] at hq; have := HQ.out; omega⟩, BJ.out⟩
end Go.Proofs.YtlfgboiejoiboaaDoor
