/- The model's l12Take. -/
import Derived.Test.YtlfgboiejoiboaaDoorCpm
import Derived.Test.YtlfgboiejoiboaaDoorBgm
namespace Go.Proofs.YtlfgboiejoiboaaDoor
open Go.ChangeShapes Go.WideShapes Go.ChangeAt Go.RowKit
set_option linter.unusedVariables false
theorem grown_only {o : Nat} {w w' : World} (h : Only o w w') : w.grownBy w' (some o) := ⟨h.os, h.tape, h.output, h.size, fun k hk hne => h.block k hk (fun e => hne (by rw [e]))⟩
theorem cntF_le (Z : Nat → Bool) : ∀ m, cntF Z m ≤ m
  | 0 => Nat.le_refl _
  | m + 1 => by have := cntF_le Z m; rw [cntF]; split <;> omega
def tofF (Z : Nat → Bool) (k i : Nat) : Int := if i < k then (cntF Z i : Int) else 0
def clF (Z : Nat → Bool) (n i : Nat) : Int := if (cntF Z n : Int) ≤ tofF Z n i then (cntF Z n : Int) - 1 else tofF Z n i
theorem clF_num (Z : Nat → Bool) (n : Nat) (t : Nat) (ht : t < n) (hm : 0 < cntF Z n) : clF Z n t = numT Z n (t : Int) := by
  unfold clF tofF numT
  rw [if_pos ht]
  simp only [Int.toNat_natCast]
  split <;> omega
/-- The row that is left. -/
def TkR (w' : World) (v : Value) (O D A B C X : Nat → Int) (Z : Nat → Bool) (n : Nat) : Prop := ∃ g c, v = .slice (some ⟨g, 0, none⟩) (tkN O Z n) c ∧ RowI w' g (tkN O Z n) (fun i => O (tkP O Z n i)) (fun i => D (tkP O Z n i)) (tkA O A Z n) (tkB O B Z n) (tkB O C Z n) (fun i => X (tkP O Z n i))
theorem alloc_cell (W : World) (cs : Array Value) (t : TypeId) (H j : Nat) (hH : W.heap.size = H) : (W.alloc (.cells cs t)).cell? ⟨H, j, none⟩ = cs[j]? := by
  subst hH
  rw [World.cell?_alloc_mark]
theorem not_take {O D A B C X : Nat → Int} {Z : Nat → Bool} {n a : Nat} {w' : World} (h : takB O Z n = false) (R : RowI w' a n O D A B C X) : tkN O Z n = n ∧ RowI w' a (tkN O Z n) (fun i => O (tkP O Z n i)) (fun i => D (tkP O Z n i)) (tkA O A Z n) (tkB O B Z n) (tkB O C Z n) (fun i => X (tkP O Z n i)) := by
  have e1 : tkN O Z n = n := by unfold tkN; rw [h]; rfl
  have e2 : ∀ i, tkP O Z n i = i := fun i => by unfold tkP; rw [h]; rfl
  refine ⟨e1, ?_⟩
  rw [e1]
  refine R.mono (Nat.le_refl _) ?_ ?_ ?_ ?_ ?_ ?_ <;> intro i hi
  · show O _ = O i; rw [e2]
  · show D _ = D i; rw [e2]
  · unfold tkA tkT; rw [h, e2]; rfl
  · unfold tkB tkT; rw [h, e2]; rfl
  · unfold tkB tkT; rw [h, e2]; rfl
  · show X _ = X i; rw [e2]
set_option maxRecDepth 100000 in
set_option maxHeartbeats 8000000 in
theorem take48 (n a cap z zc : Nat) (O D A B C X : Nat → Int) (Z : Nat → Bool) (w : World) (R : RowI w a n O D A B C X) (hZ : ∀ i, i < n → w.cell? ⟨z, i, none⟩ = some (.bool (Z i))) (hz : z < w.heap.size) (n1 : n ≤ 600)
    (hT : ∀ k, k < n → (O k = 8 → 0 ≤ A k ∧ A k < n) ∧ (O k = 9 → (0 ≤ B k ∧ B k < n) ∧ 0 ≤ C k ∧ C k < n)) : Calls Tryd.prog 50 #[.slice (some ⟨a, 0, none⟩) n cap, .slice (some ⟨z, 0, none⟩) n zc] w fun e w' => ∃ v, e = .returned v ∧ TkR w' v O D A B C X Z n ∧ Below w.heap.size w w' := by
  obtain ⟨i3, hi3, hz30, hz31, hz32⟩ := info_parts info3
  obtain ⟨i5, hi5, hz50, hz51, hz52⟩ := info_parts infoI
  have HR : Hid (RowI w a n O D A B C X) := R
  have HZ : Hid (∀ v : World, Below w.heap.size w v → ∀ i, i < n → v.cell? ⟨z, i, none⟩ = some (.bool (Z i))) := fun v b i hi => (b.cell (p := ⟨z, i, none⟩) hz).trans (hZ i hi)
  have HT : Hid (∀ k, k < n → (O k = 8 → 0 ≤ A k ∧ A k < n) ∧ (O k = 9 → (0 ≤ B k ∧ B k < n) ∧ 0 ≤ C k ∧ C k < n)) := hT
  clear R hZ hz hT
  go_enter Tryd.func50, Tryd.ntmps50
  go_wp2_with (at_make; refine wpList_make_full _ rfl _ _ 54 rfl w.heap.size 3 i3 (.int .i64 0) 1 Tryd.underlying54 hi3 hz30 hz31 .i64 .i64 _ _ (n + 1) rfl rfl ?b0 ?b1 ?b2 ?b3 ?b4 ?_)
  case b0 => go_num
  case b1 => go_num
  case b2 => rw [hz32]; omega
  case b3 => unfold maxLen; omega
  case b4 => exact Nat.le_refl _
  intro w1 hown hgrow
  have S0 : Hid (Own w1 w.heap.size (n + 1) (fun i => .int .i64 (tofF Z 0 i))) := (own_made (by rw [Nat.mul_one]; exact hown) : Own w1 w.heap.size (n + 1) (fun i => .int .i64 0)).mono (Nat.le_refl _) (fun i hi => by unfold tofF; rw [if_neg (by omega)])
  have B1 : Hid (Below w.heap.size w w1) := ⟨hgrow.os, hgrow.tape, hgrow.output, hgrow.size, fun k hk => hgrow.block k hk (by simp)⟩
  have HZ0 : Hid (cntF Z 0 = 0) := rfl
  clear hown hgrow
  go_wp2
  go_loopw [6, 18] (fun vv i wr => ∃ (k : Nat) (u : Value), k ≤ n ∧ i = .int .i64 k ∧ u = vv ∧ Hid (wr.ownsRow (w.heap.size + 1) 40 6 u (cntF Z k) (cellsP (fun i => O (kpI Z n i)) (fun i => D (kpI Z n i)) (fun i => A (kpI Z n i)) (fun i => B (kpI Z n i)) (fun i => C (kpI Z n i)) (fun i => X (kpI Z n i)) (cntF Z k))) ∧ Hid (Own wr w.heap.size (n + 1) (fun i => .int .i64 (tofF Z k i))) ∧ Hid (Below w.heap.size w wr)) (fun _ i _ => n - (intOf i).toNat)
  case atStart => exact ⟨0, _, by omega, rfl, rfl, World.ownsRow_nil _ _ _ _, S0, B1⟩
  case round =>
    obtain ⟨k, u, hk, rfl, rfl, HU, HS, HB⟩ := hrel
    clear S0 B1
    obtain ⟨ad, cp, rfl⟩ : ∃ ad cp, u = .slice ad (cntF Z k) cp := by
      rcases HU.out.2 with ⟨h1, h2⟩ | ⟨g, cp, cur, rfl, _⟩
      · rw [h2]; exact ⟨_, _, h1⟩
      · exact ⟨_, _, rfl⟩
    by_cases hkn : k < n
    · have i1 : (k : Int) < (n : Int) := by omega
      have RK := HR.out.next HB.out
      have c0 := RK.c0 k hkn
      have c1 := RK.c1 k hkn
      have c2 := RK.c2 k hkn
      have c3 := RK.c3 k hkn
      have c4 := RK.c4 k hkn
      have c5 := RK.c5 k hkn
      have q0 : (k : Int) < ((n + 1 : Nat) : Int) := by omega
      have LW : Hid (w.heap.size < wr.heap.size) := HS.out.hi
      have cs : (wr.alloc (.cells #[.int .i64 (O k), .int .i64 (D k), .int .i64 (A k), .int .i64 (B k), .int .i64 (C k), .int .u32 (X k)] 40)).cell? ⟨w.heap.size, k, none⟩ = some (.int .i64 (tofF Z k k)) := cell_nx (HS.out.cell k (by omega)) ((Below.refl _ _).alloc (Nat.le_refl _) _)
      have fz : (wr.alloc (.cells #[.int .i64 (O k), .int .i64 (D k), .int .i64 (A k), .int .i64 (B k), .int .i64 (C k), .int .u32 (X k)] 40)).frozen? ⟨w.heap.size, k, none⟩ = false := (HS.out.next ((Below.refl _ _).alloc (Nat.le_refl _) _)).free k
      have S1 : Hid (Own ((wr.alloc (.cells #[.int .i64 (O k), .int .i64 (D k), .int .i64 (A k), .int .i64 (B k), .int .i64 (C k), .int .u32 (X k)] 40)).setCell ⟨w.heap.size, k, none⟩ (.int .i64 (cntF Z k : Int))) w.heap.size (n + 1) (fun i => .int .i64 (tofF Z (k + 1) i))) := (HS.out.next ((Below.refl _ _).alloc (Nat.le_refl _) _)).set k _ (by omega) (fun i hi => by
        unfold tofF
        by_cases e : i = k
        · subst e; rw [if_pos rfl, if_pos (by omega)]
        · rw [if_neg e]
          by_cases e2 : i < k
          · rw [if_pos e2, if_pos (by omega)]
          · rw [if_neg e2, if_neg (by omega)])
      have ON : Hid (Only w.heap.size (wr.alloc (.cells #[.int .i64 (O k), .int .i64 (D k), .int .i64 (A k), .int .i64 (B k), .int .i64 (C k), .int .u32 (X k)] 40)) ((wr.alloc (.cells #[.int .i64 (O k), .int .i64 (D k), .int .i64 (A k), .int .i64 (B k), .int .i64 (C k), .int .u32 (X k)] 40)).setCell ⟨w.heap.size, k, none⟩ (.int .i64 (cntF Z k : Int)))) := (Only.refl _ _).setCell k _
      have B1 : Hid (Below w.heap.size w ((wr.alloc (.cells #[.int .i64 (O k), .int .i64 (D k), .int .i64 (A k), .int .i64 (B k), .int .i64 (C k), .int .u32 (X k)] 40)).setCell ⟨w.heap.size, k, none⟩ (.int .i64 (cntF Z k : Int)))) := (HB.out.alloc HB.out.size _).setCell (p := ⟨w.heap.size, k, none⟩) (Nat.le_refl _) _
      have U1 : Hid (((wr.alloc (.cells #[.int .i64 (O k), .int .i64 (D k), .int .i64 (A k), .int .i64 (B k), .int .i64 (C k), .int .u32 (X k)] 40)).setCell ⟨w.heap.size, k, none⟩ (.int .i64 (cntF Z k : Int))).ownsRow (w.heap.size + 1) 40 6 (.slice ad (cntF Z k) cp) (cntF Z k) (cellsP (fun i => O (kpI Z n i)) (fun i => D (kpI Z n i)) (fun i => A (kpI Z n i)) (fun i => B (kpI Z n i)) (fun i => C (kpI Z n i)) (fun i => X (kpI Z n i)) (cntF Z k))) := (HU.out.alloc _).kept (grown_only ON.out) (by
        cases e : (Value.slice ad (cntF Z k) cp).ownBlock with
        | none => exact Or.inl rfl
        | some g => right; intro q; injection q with q; have := (HU.out.lt g e).1; omega)
      have cz := HZ.out _ B1.out k hkn
      have d0 := only_cell ON.out (show (wr.alloc (.cells #[.int .i64 (O k), .int .i64 (D k), .int .i64 (A k), .int .i64 (B k), .int .i64 (C k), .int .u32 (X k)] 40)).cell? ⟨wr.heap.size, 0, none⟩ = some (.int .i64 (O k)) by simp) (by have := LW.out; omega)
      have d1 := only_cell ON.out (show (wr.alloc (.cells #[.int .i64 (O k), .int .i64 (D k), .int .i64 (A k), .int .i64 (B k), .int .i64 (C k), .int .u32 (X k)] 40)).cell? ⟨wr.heap.size, 1, none⟩ = some (.int .i64 (D k)) by simp) (by have := LW.out; omega)
      have d2 := only_cell ON.out (show (wr.alloc (.cells #[.int .i64 (O k), .int .i64 (D k), .int .i64 (A k), .int .i64 (B k), .int .i64 (C k), .int .u32 (X k)] 40)).cell? ⟨wr.heap.size, 2, none⟩ = some (.int .i64 (A k)) by simp) (by have := LW.out; omega)
      have d3 := only_cell ON.out (show (wr.alloc (.cells #[.int .i64 (O k), .int .i64 (D k), .int .i64 (A k), .int .i64 (B k), .int .i64 (C k), .int .u32 (X k)] 40)).cell? ⟨wr.heap.size, 3, none⟩ = some (.int .i64 (B k)) by simp) (by have := LW.out; omega)
      have d4 := only_cell ON.out (show (wr.alloc (.cells #[.int .i64 (O k), .int .i64 (D k), .int .i64 (A k), .int .i64 (B k), .int .i64 (C k), .int .u32 (X k)] 40)).cell? ⟨wr.heap.size, 4, none⟩ = some (.int .i64 (C k)) by simp) (by have := LW.out; omega)
      have d5 := only_cell ON.out (show (wr.alloc (.cells #[.int .i64 (O k), .int .i64 (D k), .int .i64 (A k), .int .i64 (B k), .int .i64 (C k), .int .u32 (X k)] 40)).cell? ⟨wr.heap.size, 5, none⟩ = some (.int .u32 (X k)) by simp) (by have := LW.out; omega)
      have HC : Hid (cntF Z (k + 1) = cntF Z k + (if Z k then 0 else 1)) := rfl
      have HCl : Hid (cntF Z k ≤ 600) := by have := cntF_le Z k; show _ ≤ _; omega
      have HKa : Hid (Z k = false → kpI Z n (cntF Z k) = k) := fun h => by
        have := keepL_at Z k h n hkn
        unfold kpI
        rw [List.getD_eq_getElem?_getD, this]
        rfl
      clear RK HS HB ON HU
      generalize hcn : cntF Z k = cn at U1 S1 B1 HC HCl HKa cz d0 d1 d2 d3 d4 d5 ⊢
      cases hzk : Z k
      · rw [hzk] at cz
        have HN : Hid (cntF Z (k + 1) = cn + 1) := by show _ = _; rw [HC.out, hzk]; rfl
        have HK := HKa.out hzk
        have NE : some w.heap.size ≠ (Value.slice ad cn cp).ownBlock := by intro e; have := (U1.out.lt _ e.symm).1; omega
        go_wp2_with (at_builtin; refine wpList_append_own _ rfl _ _ 27 rfl (w.heap.size + 1) 40 i5 (.agg #[.int .i64 0, .int .i64 0, .int .i64 0, .int .i64 0, .int .i64 0, .int .u32 0]) 6 48 Tryd.underlying27 hi5 hz50 hz51 hz52 rfl (by decide) _ _ _ rfl (U1.out.alloc _) ⟨_, 0, none⟩ 1 1 [.int .i64 (O k), .int .i64 (D k), .int .i64 (A k), .int .i64 (B k), .int .i64 (C k), .int .u32 (X k)] rfl rfl ?c1 ?c2 ?c3 ?c4 ?c5 ?_)
        case c1 =>
          intro j u hj
          match j, hj with
          | 0, hj => simp at hj; subst hj; simp [Addr.add]; exact alloc_cell _ _ _ _ 0 (by simp)
          | 1, hj => simp at hj; subst hj; simp [Addr.add]; exact alloc_cell _ _ _ _ 1 (by simp)
          | 2, hj => simp at hj; subst hj; simp [Addr.add]; exact alloc_cell _ _ _ _ 2 (by simp)
          | 3, hj => simp at hj; subst hj; simp [Addr.add]; exact alloc_cell _ _ _ _ 3 (by simp)
          | 4, hj => simp at hj; subst hj; simp [Addr.add]; exact alloc_cell _ _ _ _ 4 (by simp)
          | 5, hj => simp at hj; subst hj; simp [Addr.add]; exact alloc_cell _ _ _ _ 5 (by simp)
        case c2 => intro u hu; simp at hu; rcases hu with rfl | rfl | rfl | rfl | rfl | rfl <;> rfl
        case c3 => have := HCl.out; unfold maxLen; omega
        case c4 => have := HCl.out; omega
        case c5 => have := LW.out; simp; omega
        intro v3 w3 hown hgrow _
        have U3 : Hid (w3.ownsRow (w.heap.size + 1) 40 6 v3 (cntF Z (k + 1)) (cellsP (fun i => O (kpI Z n i)) (fun i => D (kpI Z n i)) (fun i => A (kpI Z n i)) (fun i => B (kpI Z n i)) (fun i => C (kpI Z n i)) (fun i => X (kpI Z n i)) (cntF Z (k + 1)))) := by
          rw [HN.out]
          show w3.ownsRow (w.heap.size + 1) 40 6 v3 (cn + 1) (cellsP (fun i => O (kpI Z n i)) (fun i => D (kpI Z n i)) (fun i => A (kpI Z n i)) (fun i => B (kpI Z n i)) (fun i => C (kpI Z n i)) (fun i => X (kpI Z n i)) cn ++ [.int .i64 (O (kpI Z n cn)), .int .i64 (D (kpI Z n cn)), .int .i64 (A (kpI Z n cn)), .int .i64 (B (kpI Z n cn)), .int .i64 (C (kpI Z n cn)), .int .u32 (X (kpI Z n cn))])
          rw [HK]
          exact hown
        have S3 : Hid (Own w3 w.heap.size (n + 1) (fun i => .int .i64 (tofF Z (k + 1) i))) := own_grown (S1.out.next ((Below.refl _ _).alloc (Nat.le_refl _) _)) hgrow NE
        have B3 : Hid (Below w.heap.size w w3) := (B1.out.alloc B1.out.size _).grown hgrow (by have := B1.out.size; simp at *; omega) (fun q hq => by have := (U1.out.lt q hq).1; omega)
        clear hown hgrow NE U1 S1 B1
        go_wp2
        go_roundw
        case rel => exact ⟨k + 1, _, by omega, by go_num, rfl, U3, S3, B3⟩
        case measure => simp [intOf]; omega
      · rw [hzk] at cz
        have HN : Hid (cntF Z (k + 1) = cn) := by show _ = _; rw [HC.out, hzk]; rfl
        clear hzk
        go_wp2
        go_roundw
        case rel => exact ⟨k + 1, _, by omega, by go_num, rfl, by rw [HN.out]; exact U1, S1, B1⟩
        case measure => simp [intOf]; omega
    · obtain rfl : k = n := by omega
      have i1 : ¬ (k : Int) < (k : Int) := by omega
      have HRk := HR.out.next HB.out
      by_cases m0 : cntF Z k = 0
      · have HF : takB O Z k = false := by unfold takB; rw [m0]; rfl
        have em : ((cntF Z k : Int) == 0) = true := by simp [m0]
        have NT := not_take HF HRk
        clear HU HS HRk HF
        go_wp2
        go_ret
        exact ⟨_, rfl, ⟨a, cap, by rw [NT.1]; rfl, NT.2⟩, HB.out⟩
      have em : ((cntF Z k : Int) == 0) = false := by simp [m0]
      obtain ⟨g, c, cur, hv, hgB, _⟩ := HU.out.2.resolve_left (fun h => m0 h.2)
      injection hv with hv1 _ hv3
      subst hv1 hv3
      have RW : RowI wr g (cntF Z k) (fun i => O (kpI Z k i)) (fun i => D (kpI Z k i)) (fun i => A (kpI Z k i)) (fun i => B (kpI Z k i)) (fun i => C (kpI Z k i)) (fun i => X (kpI Z k i)) := rowI_of HU.out
      have HTk : Hid (takB O Z k = (O (kpI Z k (cntF Z k - 1)) == 11 || O (kpI Z k (cntF Z k - 1)) == 8)) := by show _ = _; unfold takB; rw [decide_eq_true (show 0 < cntF Z k by omega)]; rfl
      have cl := RW.c0 (cntF Z k - 1) (by omega)
      have HKl : Hid (∀ i, i < cntF Z k → kpI Z k i < k) := kpI_lt Z k
      have hm6 : cntF Z k ≤ 600 := by have := cntF_le Z k; omega
      have HCn : Hid (∀ t : Nat, t < k → clF Z k t = numT Z k (t : Int)) := fun t ht => clF_num Z k t ht (by omega)
      have HTT : Hid (takB O Z k = true → tkN O Z k = cntF Z k ∧ (∀ i, tkP O Z k i = kpI Z k i) ∧ ∀ (b : Bool) (t : Int), tkT O Z k b t = if b then numT Z k t else t) := fun h => ⟨by unfold tkN; rw [h]; rfl, fun i => by unfold tkP; rw [h]; rfl, fun b t => by unfold tkT; rw [h]; cases b <;> rfl⟩
      have HRW : Hid (RowI wr g (cntF Z k) (fun i => O (kpI Z k i)) (fun i => D (kpI Z k i)) (fun i => A (kpI Z k i)) (fun i => B (kpI Z k i)) (fun i => C (kpI Z k i)) (fun i => X (kpI Z k i))) := RW
      clear RW HU
      obtain ⟨p, hp⟩ : ∃ p, cntF Z k = p + 1 := ⟨cntF Z k - 1, by omega⟩
      have HCl2 : Hid (∀ i, clF Z k i = if ((p + 1 : Nat) : Int) ≤ tofF Z k i then ((p + 1 : Nat) : Int) - 1 else tofF Z k i) := fun i => by unfold clF; rw [hp]
      rw [hp] at em cl HTk HKl hm6 HRW HTT ⊢
      simp only [Nat.add_sub_cancel] at cl HTk
      have HS0 : Hid (Own wr w.heap.size (k + 1) (fun i => .int .i64 (if i < 0 then clF Z k i else tofF Z k i))) := HS.out.mono (Nat.le_refl _) (fun i hi => by rw [if_neg (by omega)])
      have p1 : p ≤ 600 := by omega
      clear m0 HS
      obtain ⟨W0, rfl⟩ : ∃ W0, W0 = wr := ⟨_, rfl⟩
      generalize hlo : O (kpI Z k p) = lo at cl HTk
      by_cases h11 : lo = 11
      · subst h11
        have HTr : Hid (takB O Z k = true) := by show _ = _; rw [HTk.out]; rfl
        clear HTk hlo
        go_wp2
        go_loopw [58] (fun i wx => ∃ j : Nat, j ≤ k + 1 ∧ i = .int .i64 j ∧ Hid (Own wx w.heap.size (k + 1) (fun i => .int .i64 (if i < j then clF Z k i else tofF Z k i))) ∧ Hid (Only w.heap.size W0 wx)) (fun i _ => k + 1 - (intOf i).toNat)
        case atStart => exact ⟨0, by omega, rfl, HS0, Only.refl _ _⟩
        case round =>
          obtain ⟨j, hj, rfl, SJ, KJ⟩ := hrel
          clear HS0
          by_cases hjk : j < k + 1
          · have i2 : (j : Int) < ((k + 1 : Nat) : Int) := by omega
            have cj := SJ.out.cell j hjk
            have fj := SJ.out.free j
            rw [if_neg (Nat.lt_irrefl j)] at cj
            have HV := HCl2.out j
            have tv : 0 ≤ tofF Z k j ∧ tofF Z k j ≤ 600 := by unfold tofF; have := cntF_le Z j; split <;> omega
            have HSt : Hid (∀ i, i ≠ j → (if i < j + 1 then clF Z k i else tofF Z k i) = (if i < j then clF Z k i else tofF Z k i)) := fun i hi => by
              by_cases e : i < j
              · rw [if_pos e, if_pos (by omega)]
              · rw [if_neg e, if_neg (by omega)]
            generalize hvv : tofF Z k j = vv at cj HV tv
            by_cases hc : ((p + 1 : Nat) : Int) ≤ vv
            · have hc' : (p : Int) + 1 ≤ vv := by omega
              have hc2 : ¬ vv < (p : Int) + 1 := by omega
              have S4 : Hid (Own (wr.setCell ⟨w.heap.size, j, none⟩ (.int .i64 (p : Int))) w.heap.size (k + 1) (fun i => .int .i64 (if i < j + 1 then clF Z k i else tofF Z k i))) := SJ.out.set j _ hjk (fun i hi => by
                by_cases e : i = j
                · subst e; rw [if_pos rfl, if_pos (by omega), HV, if_pos hc]; congr 1; omega
                · rw [if_neg e, HSt.out i e])
              have K4 : Hid (Only w.heap.size W0 (wr.setCell ⟨w.heap.size, j, none⟩ (.int .i64 (p : Int)))) := KJ.out.setCell j _
              clear SJ KJ hvv HV
              go_wp2
              go_roundw
              case rel => exact ⟨j + 1, by omega, by go_num, S4, K4⟩
              case measure => simp [intOf]; omega
            · have hc' : ¬ (p : Int) + 1 ≤ vv := by omega
              have hc2 : vv < (p : Int) + 1 := by omega
              have S4 : Hid (Own wr w.heap.size (k + 1) (fun i => .int .i64 (if i < j + 1 then clF Z k i else tofF Z k i))) := SJ.out.mono (Nat.le_refl _) (fun i hi => by
                by_cases e : i = j
                · subst e; rw [if_pos (by omega), if_neg (Nat.lt_irrefl i), HV, if_neg hc, hvv]
                · rw [HSt.out i e])
              clear SJ hvv HV
              go_wp2
              go_roundw
              case rel => exact ⟨j + 1, by omega, by go_num, S4, KJ⟩
              case measure => simp [intOf]; omega
          · obtain rfl : j = k + 1 := by omega
            have i2 : ¬ ((k + 1 : Nat) : Int) < ((k + 1 : Nat) : Int) := by omega
            have S5 : Hid (Own wr w.heap.size (k + 1) (fun i => .int .i64 (clF Z k i))) := SJ.out.mono (Nat.le_refl _) (fun i hi => by rw [if_pos hi])
            have R5 : Hid (RowI wr g (p + 1) (fun i => O (kpI Z k i)) (fun i => D (kpI Z k i)) (fun i => A (kpI Z k i)) (fun i => B (kpI Z k i)) (fun i => C (kpI Z k i)) (fun i => X (kpI Z k i))) := HRW.out.grown (grown_only KJ.out) (by intro e; injection e with e; omega)
            have B5 : Hid (Below w.heap.size w wr) := HB.out.trans (KJ.out.below (Nat.le_refl _) HB.out.size)
            have R6 : Hid (RowI wr g (p + 1) (fun i => O (kpI Z k i)) (fun i => D (kpI Z k i)) (fun i => if i < 0 ∧ O (kpI Z k i) = 8 then numT Z k (A (kpI Z k i)) else A (kpI Z k i)) (fun i => if i < 0 ∧ O (kpI Z k i) = 9 then numT Z k (B (kpI Z k i)) else B (kpI Z k i)) (fun i => if i < 0 ∧ O (kpI Z k i) = 9 then numT Z k (C (kpI Z k i)) else C (kpI Z k i)) (fun i => X (kpI Z k i))) := R5.out.mono (Nat.le_refl _) (fun i hi => rfl) (fun i hi => rfl) (fun i hi => by rw [if_neg (by omega)]) (fun i hi => by rw [if_neg (by omega)]) (fun i hi => by rw [if_neg (by omega)]) (fun i hi => rfl)
            clear SJ KJ R5
            go_wp2
            go_loopw [77] (fun i wx => ∃ j : Nat, j ≤ p + 1 ∧ i = .int .i64 j ∧ Hid (RowI wx g (p + 1) (fun i => O (kpI Z k i)) (fun i => D (kpI Z k i)) (fun i => if i < j ∧ O (kpI Z k i) = 8 then numT Z k (A (kpI Z k i)) else A (kpI Z k i)) (fun i => if i < j ∧ O (kpI Z k i) = 9 then numT Z k (B (kpI Z k i)) else B (kpI Z k i)) (fun i => if i < j ∧ O (kpI Z k i) = 9 then numT Z k (C (kpI Z k i)) else C (kpI Z k i)) (fun i => X (kpI Z k i))) ∧ Hid (Own wx w.heap.size (k + 1) (fun i => .int .i64 (clF Z k i))) ∧ Hid (Below w.heap.size w wx)) (fun i _ => p + 1 - (intOf i).toNat)
            case atStart => exact ⟨0, by omega, rfl, R6, S5, B5⟩
            case round =>
              obtain ⟨j, hj, rfl, RJ, SJ, BJ⟩ := hrel
              clear R6 S5 B5
              by_cases hjp : j < p + 1
              · have i3' : (j : Int) < ((p + 1 : Nat) : Int) := by omega
                have i3'' : (j : Int) < (p : Int) + 1 := by omega
                have e0 := RJ.out.c0 j hjp
                have e2 := RJ.out.c2 j hjp
                have e3 := RJ.out.c3 j hjp
                have e4 := RJ.out.c4 j hjp
                rw [if_neg (by omega)] at e2 e3 e4
                have z2 := RJ.out.free (j * 6 + 2)
                have z3 := RJ.out.free (j * 6 + 3)
                have z4 := RJ.out.free (j * 6 + 4)
                have hkj := HKl.out j hjp
                obtain ⟨tA, tB⟩ := HT.out (kpI Z k j) hkj
                have NG : Hid (w.heap.size ≠ g) := by show _ ≠ _; omega
                have HStp : Hid (∀ (o : Int) (f : Nat → Int) (i : Nat), (i ≠ j ∨ O (kpI Z k j) ≠ o) → (if i < j + 1 ∧ O (kpI Z k i) = o then numT Z k (f i) else f i) = (if i < j ∧ O (kpI Z k i) = o then numT Z k (f i) else f i)) := fun o f i hi => by
                  by_cases e : i = j
                  · subst e
                    have hne := hi.resolve_left (fun h => h rfl)
                    rw [if_neg (fun h => hne h.2), if_neg (fun h => hne h.2)]
                  · by_cases e2 : i < j
                    · by_cases e3 : O (kpI Z k i) = o
                      · rw [if_pos ⟨by omega, e3⟩, if_pos ⟨e2, e3⟩]
                      · rw [if_neg (fun h => e3 h.2), if_neg (fun h => e3 h.2)]
                    · rw [if_neg (by omega), if_neg (by omega)]
                by_cases h8 : O (kpI Z k j) = 8
                · have hAA := tA h8
                  obtain ⟨t, ht⟩ : ∃ t : Nat, A (kpI Z k j) = (t : Int) := ⟨(A (kpI Z k j)).toNat, by omega⟩
                  have tk : t < k := by omega
                  rw [h8] at e0
                  rw [ht] at e2
                  have q0 : (t : Int) < ((k + 1 : Nat) : Int) := by omega
                  have ct := SJ.out.cell t (by omega)
                  rw [HCn.out t tk] at ct
                  have R7 : Hid (RowI (wr.setCell ⟨g, j * 6 + 2, none⟩ (.int .i64 (numT Z k (t : Int)))) g (p + 1) (fun i => O (kpI Z k i)) (fun i => D (kpI Z k i)) (fun i => if i < j + 1 ∧ O (kpI Z k i) = 8 then numT Z k (A (kpI Z k i)) else A (kpI Z k i)) (fun i => if i < j + 1 ∧ O (kpI Z k i) = 9 then numT Z k (B (kpI Z k i)) else B (kpI Z k i)) (fun i => if i < j + 1 ∧ O (kpI Z k i) = 9 then numT Z k (C (kpI Z k i)) else C (kpI Z k i)) (fun i => X (kpI Z k i))) := (RJ.out.set2 j (numT Z k (t : Int))).mono (Nat.le_refl _) (fun i hi => rfl) (fun i hi => rfl) (fun i hi => by
                    by_cases e : i = j
                    · subst e; rw [if_pos ⟨by omega, h8⟩, if_pos rfl, ht]
                    · rw [if_neg e]; exact HStp.out 8 (fun i => A (kpI Z k i)) i (Or.inl e)) (fun i hi => HStp.out 9 (fun i => B (kpI Z k i)) i (Or.inr (by omega))) (fun i hi => HStp.out 9 (fun i => C (kpI Z k i)) i (Or.inr (by omega))) (fun i hi => rfl)
                  have S7 : Hid (Own (wr.setCell ⟨g, j * 6 + 2, none⟩ (.int .i64 (numT Z k (t : Int)))) w.heap.size (k + 1) (fun i => .int .i64 (clF Z k i))) := SJ.out.but ((Only.refl g wr).setCell (j * 6 + 2) _) NG.out
                  have B7 : Hid (Below w.heap.size w (wr.setCell ⟨g, j * 6 + 2, none⟩ (.int .i64 (numT Z k (t : Int))))) := BJ.out.setCell (p := ⟨g, j * 6 + 2, none⟩) (by show w.heap.size ≤ g; omega) _
                  clear RJ SJ BJ HStp h8 ht tA tB hAA
                  go_wp2
                  go_roundw
                  case rel => exact ⟨j + 1, by omega, by go_num, R7, S7, B7⟩
                  case measure => simp [intOf]; omega
                by_cases h9 : O (kpI Z k j) = 9
                · have hBB := tB h9
                  obtain ⟨t, ht⟩ : ∃ t : Nat, B (kpI Z k j) = (t : Int) := ⟨(B (kpI Z k j)).toNat, by omega⟩
                  obtain ⟨t', ht'⟩ : ∃ t : Nat, C (kpI Z k j) = (t : Int) := ⟨(C (kpI Z k j)).toNat, by omega⟩
                  have tk : t < k := by omega
                  have tk' : t' < k := by omega
                  rw [h9] at e0
                  rw [ht] at e3
                  have q0 : (t : Int) < ((k + 1 : Nat) : Int) := by omega
                  have q1 : (t' : Int) < ((k + 1 : Nat) : Int) := by omega
                  have ct := SJ.out.cell t (by omega)
                  rw [HCn.out t tk] at ct
                  have R7 := RJ.out.set3 j (numT Z k (t : Int))
                  have S7 := SJ.out.but ((Only.refl g wr).setCell (j * 6 + 3) (.int .i64 (numT Z k (t : Int)))) NG.out
                  have e4' := R7.c4 j hjp
                  rw [if_neg (by omega), ht'] at e4'
                  have z4' := R7.free (j * 6 + 4)
                  have ct' := S7.cell t' (by omega)
                  rw [HCn.out t' tk'] at ct'
                  have R8 : Hid (RowI ((wr.setCell ⟨g, j * 6 + 3, none⟩ (.int .i64 (numT Z k (t : Int)))).setCell ⟨g, j * 6 + 4, none⟩ (.int .i64 (numT Z k (t' : Int)))) g (p + 1) (fun i => O (kpI Z k i)) (fun i => D (kpI Z k i)) (fun i => if i < j + 1 ∧ O (kpI Z k i) = 8 then numT Z k (A (kpI Z k i)) else A (kpI Z k i)) (fun i => if i < j + 1 ∧ O (kpI Z k i) = 9 then numT Z k (B (kpI Z k i)) else B (kpI Z k i)) (fun i => if i < j + 1 ∧ O (kpI Z k i) = 9 then numT Z k (C (kpI Z k i)) else C (kpI Z k i)) (fun i => X (kpI Z k i))) := (R7.set4 j (numT Z k (t' : Int))).mono (Nat.le_refl _) (fun i hi => rfl) (fun i hi => rfl) (fun i hi => HStp.out 8 (fun i => A (kpI Z k i)) i (Or.inr (by omega))) (fun i hi => by
                    by_cases e : i = j
                    · subst e; rw [if_pos ⟨by omega, h9⟩, if_pos rfl, ht]
                    · rw [if_neg e]; exact HStp.out 9 (fun i => B (kpI Z k i)) i (Or.inl e)) (fun i hi => by
                    by_cases e : i = j
                    · subst e; rw [if_pos ⟨by omega, h9⟩, if_pos rfl, ht']
                    · rw [if_neg e]; exact HStp.out 9 (fun i => C (kpI Z k i)) i (Or.inl e)) (fun i hi => rfl)
                  have S8 : Hid (Own ((wr.setCell ⟨g, j * 6 + 3, none⟩ (.int .i64 (numT Z k (t : Int)))).setCell ⟨g, j * 6 + 4, none⟩ (.int .i64 (numT Z k (t' : Int)))) w.heap.size (k + 1) (fun i => .int .i64 (clF Z k i))) := S7.but ((Only.refl g _).setCell (j * 6 + 4) _) NG.out
                  have B8 : Hid (Below w.heap.size w ((wr.setCell ⟨g, j * 6 + 3, none⟩ (.int .i64 (numT Z k (t : Int)))).setCell ⟨g, j * 6 + 4, none⟩ (.int .i64 (numT Z k (t' : Int))))) := (BJ.out.setCell (p := ⟨g, j * 6 + 3, none⟩) (by show w.heap.size ≤ g; omega) _).setCell (p := ⟨g, j * 6 + 4, none⟩) (by show w.heap.size ≤ g; omega) _
                  clear RJ SJ BJ HStp h8 h9 ht ht' tA tB hBB R7 S7 e4 e2 z2 z4
                  go_wp2
                  go_roundw
                  case rel => exact ⟨j + 1, by omega, by go_num, R8, S8, B8⟩
                  case measure => simp [intOf]; omega
                · have f8 : (O (kpI Z k j) == 8) = false := by simp [h8]
                  have f9 : (O (kpI Z k j) == 9) = false := by simp [h9]
                  have R7 : Hid (RowI wr g (p + 1) (fun i => O (kpI Z k i)) (fun i => D (kpI Z k i)) (fun i => if i < j + 1 ∧ O (kpI Z k i) = 8 then numT Z k (A (kpI Z k i)) else A (kpI Z k i)) (fun i => if i < j + 1 ∧ O (kpI Z k i) = 9 then numT Z k (B (kpI Z k i)) else B (kpI Z k i)) (fun i => if i < j + 1 ∧ O (kpI Z k i) = 9 then numT Z k (C (kpI Z k i)) else C (kpI Z k i)) (fun i => X (kpI Z k i))) := RJ.out.mono (Nat.le_refl _) (fun i hi => rfl) (fun i hi => rfl) (fun i hi => HStp.out 8 (fun i => A (kpI Z k i)) i (Or.inr h8)) (fun i hi => HStp.out 9 (fun i => B (kpI Z k i)) i (Or.inr h9)) (fun i hi => HStp.out 9 (fun i => C (kpI Z k i)) i (Or.inr h9)) (fun i hi => rfl)
                  clear RJ HStp h8 h9 tA tB
                  go_wp2
                  go_roundw
                  case rel => exact ⟨j + 1, by omega, by go_num, R7, SJ, BJ⟩
                  case measure => simp [intOf]; omega
              · obtain rfl : j = p + 1 := by omega
                have i3' : ¬ ((p + 1 : Nat) : Int) < ((p + 1 : Nat) : Int) := by omega
                have HE : Hid (TkR wr (.slice (some ⟨g, 0, none⟩) (p + 1) cp) O D A B C X Z k) := by
                  obtain ⟨t1, t2, t3⟩ := HTT.out HTr.out
                  refine ⟨g, cp, by rw [t1], ?_⟩
                  rw [t1]
                  have tAf : ∀ (f : Nat → Int) (o : Int) (i : Nat), i < p + 1 → tkT O Z k (O (tkP O Z k i) == o) (f (tkP O Z k i)) = if i < p + 1 ∧ O (kpI Z k i) = o then numT Z k (f (kpI Z k i)) else f (kpI Z k i) := fun f o i hi => by
                    rw [t3, t2]
                    by_cases e : O (kpI Z k i) = o
                    · simp [e, hi]
                    · simp [e]
                  exact RJ.out.mono (Nat.le_refl _) (fun i hi => by show O _ = O _; rw [t2]) (fun i hi => by show D _ = D _; rw [t2]) (fun i hi => tAf A 8 i hi) (fun i hi => tAf B 9 i hi) (fun i hi => tAf C 9 i hi) (fun i hi => by show X _ = X _; rw [t2])
                clear RJ SJ
                go_wp2
                go_ret
                exact ⟨_, rfl, HE.out, BJ.out⟩
      by_cases h8 : lo = 8
      · subst h8
        have HTr : Hid (takB O Z k = true) := by show _ = _; rw [HTk.out]; rfl
        clear HTk hlo h11
        go_wp2
        go_loopw [58] (fun i wx => ∃ j : Nat, j ≤ k + 1 ∧ i = .int .i64 j ∧ Hid (Own wx w.heap.size (k + 1) (fun i => .int .i64 (if i < j then clF Z k i else tofF Z k i))) ∧ Hid (Only w.heap.size W0 wx)) (fun i _ => k + 1 - (intOf i).toNat)
        case atStart => exact ⟨0, by omega, rfl, HS0, Only.refl _ _⟩
        case round =>
          obtain ⟨j, hj, rfl, SJ, KJ⟩ := hrel
          clear HS0
          by_cases hjk : j < k + 1
          · have i2 : (j : Int) < ((k + 1 : Nat) : Int) := by omega
            have cj := SJ.out.cell j hjk
            have fj := SJ.out.free j
            rw [if_neg (Nat.lt_irrefl j)] at cj
            have HV := HCl2.out j
            have tv : 0 ≤ tofF Z k j ∧ tofF Z k j ≤ 600 := by unfold tofF; have := cntF_le Z j; split <;> omega
            have HSt : Hid (∀ i, i ≠ j → (if i < j + 1 then clF Z k i else tofF Z k i) = (if i < j then clF Z k i else tofF Z k i)) := fun i hi => by
              by_cases e : i < j
              · rw [if_pos e, if_pos (by omega)]
              · rw [if_neg e, if_neg (by omega)]
            generalize hvv : tofF Z k j = vv at cj HV tv
            by_cases hc : ((p + 1 : Nat) : Int) ≤ vv
            · have hc' : (p : Int) + 1 ≤ vv := by omega
              have hc2 : ¬ vv < (p : Int) + 1 := by omega
              have S4 : Hid (Own (wr.setCell ⟨w.heap.size, j, none⟩ (.int .i64 (p : Int))) w.heap.size (k + 1) (fun i => .int .i64 (if i < j + 1 then clF Z k i else tofF Z k i))) := SJ.out.set j _ hjk (fun i hi => by
                by_cases e : i = j
                · subst e; rw [if_pos rfl, if_pos (by omega), HV, if_pos hc]; congr 1; omega
                · rw [if_neg e, HSt.out i e])
              have K4 : Hid (Only w.heap.size W0 (wr.setCell ⟨w.heap.size, j, none⟩ (.int .i64 (p : Int)))) := KJ.out.setCell j _
              clear SJ KJ hvv HV
              go_wp2
              go_roundw
              case rel => exact ⟨j + 1, by omega, by go_num, S4, K4⟩
              case measure => simp [intOf]; omega
            · have hc' : ¬ (p : Int) + 1 ≤ vv := by omega
              have hc2 : vv < (p : Int) + 1 := by omega
              have S4 : Hid (Own wr w.heap.size (k + 1) (fun i => .int .i64 (if i < j + 1 then clF Z k i else tofF Z k i))) := SJ.out.mono (Nat.le_refl _) (fun i hi => by
                by_cases e : i = j
                · subst e; rw [if_pos (by omega), if_neg (Nat.lt_irrefl i), HV, if_neg hc, hvv]
                · rw [HSt.out i e])
              clear SJ hvv HV
              go_wp2
              go_roundw
              case rel => exact ⟨j + 1, by omega, by go_num, S4, KJ⟩
              case measure => simp [intOf]; omega
          · obtain rfl : j = k + 1 := by omega
            have i2 : ¬ ((k + 1 : Nat) : Int) < ((k + 1 : Nat) : Int) := by omega
            have S5 : Hid (Own wr w.heap.size (k + 1) (fun i => .int .i64 (clF Z k i))) := SJ.out.mono (Nat.le_refl _) (fun i hi => by rw [if_pos hi])
            have R5 : Hid (RowI wr g (p + 1) (fun i => O (kpI Z k i)) (fun i => D (kpI Z k i)) (fun i => A (kpI Z k i)) (fun i => B (kpI Z k i)) (fun i => C (kpI Z k i)) (fun i => X (kpI Z k i))) := HRW.out.grown (grown_only KJ.out) (by intro e; injection e with e; omega)
            have B5 : Hid (Below w.heap.size w wr) := HB.out.trans (KJ.out.below (Nat.le_refl _) HB.out.size)
            have R6 : Hid (RowI wr g (p + 1) (fun i => O (kpI Z k i)) (fun i => D (kpI Z k i)) (fun i => if i < 0 ∧ O (kpI Z k i) = 8 then numT Z k (A (kpI Z k i)) else A (kpI Z k i)) (fun i => if i < 0 ∧ O (kpI Z k i) = 9 then numT Z k (B (kpI Z k i)) else B (kpI Z k i)) (fun i => if i < 0 ∧ O (kpI Z k i) = 9 then numT Z k (C (kpI Z k i)) else C (kpI Z k i)) (fun i => X (kpI Z k i))) := R5.out.mono (Nat.le_refl _) (fun i hi => rfl) (fun i hi => rfl) (fun i hi => by rw [if_neg (by omega)]) (fun i hi => by rw [if_neg (by omega)]) (fun i hi => by rw [if_neg (by omega)]) (fun i hi => rfl)
            clear SJ KJ R5
            go_wp2
            go_loopw [77] (fun i wx => ∃ j : Nat, j ≤ p + 1 ∧ i = .int .i64 j ∧ Hid (RowI wx g (p + 1) (fun i => O (kpI Z k i)) (fun i => D (kpI Z k i)) (fun i => if i < j ∧ O (kpI Z k i) = 8 then numT Z k (A (kpI Z k i)) else A (kpI Z k i)) (fun i => if i < j ∧ O (kpI Z k i) = 9 then numT Z k (B (kpI Z k i)) else B (kpI Z k i)) (fun i => if i < j ∧ O (kpI Z k i) = 9 then numT Z k (C (kpI Z k i)) else C (kpI Z k i)) (fun i => X (kpI Z k i))) ∧ Hid (Own wx w.heap.size (k + 1) (fun i => .int .i64 (clF Z k i))) ∧ Hid (Below w.heap.size w wx)) (fun i _ => p + 1 - (intOf i).toNat)
            case atStart => exact ⟨0, by omega, rfl, R6, S5, B5⟩
            case round =>
              obtain ⟨j, hj, rfl, RJ, SJ, BJ⟩ := hrel
              clear R6 S5 B5
              by_cases hjp : j < p + 1
              · have i3' : (j : Int) < ((p + 1 : Nat) : Int) := by omega
                have i3'' : (j : Int) < (p : Int) + 1 := by omega
                have e0 := RJ.out.c0 j hjp
                have e2 := RJ.out.c2 j hjp
                have e3 := RJ.out.c3 j hjp
                have e4 := RJ.out.c4 j hjp
                rw [if_neg (by omega)] at e2 e3 e4
                have z2 := RJ.out.free (j * 6 + 2)
                have z3 := RJ.out.free (j * 6 + 3)
                have z4 := RJ.out.free (j * 6 + 4)
                have hkj := HKl.out j hjp
                obtain ⟨tA, tB⟩ := HT.out (kpI Z k j) hkj
                have NG : Hid (w.heap.size ≠ g) := by show _ ≠ _; omega
                have HStp : Hid (∀ (o : Int) (f : Nat → Int) (i : Nat), (i ≠ j ∨ O (kpI Z k j) ≠ o) → (if i < j + 1 ∧ O (kpI Z k i) = o then numT Z k (f i) else f i) = (if i < j ∧ O (kpI Z k i) = o then numT Z k (f i) else f i)) := fun o f i hi => by
                  by_cases e : i = j
                  · subst e
                    have hne := hi.resolve_left (fun h => h rfl)
                    rw [if_neg (fun h => hne h.2), if_neg (fun h => hne h.2)]
                  · by_cases e2 : i < j
                    · by_cases e3 : O (kpI Z k i) = o
                      · rw [if_pos ⟨by omega, e3⟩, if_pos ⟨e2, e3⟩]
                      · rw [if_neg (fun h => e3 h.2), if_neg (fun h => e3 h.2)]
                    · rw [if_neg (by omega), if_neg (by omega)]
                by_cases h8 : O (kpI Z k j) = 8
                · have hAA := tA h8
                  obtain ⟨t, ht⟩ : ∃ t : Nat, A (kpI Z k j) = (t : Int) := ⟨(A (kpI Z k j)).toNat, by omega⟩
                  have tk : t < k := by omega
                  rw [h8] at e0
                  rw [ht] at e2
                  have q0 : (t : Int) < ((k + 1 : Nat) : Int) := by omega
                  have ct := SJ.out.cell t (by omega)
                  rw [HCn.out t tk] at ct
                  have R7 : Hid (RowI (wr.setCell ⟨g, j * 6 + 2, none⟩ (.int .i64 (numT Z k (t : Int)))) g (p + 1) (fun i => O (kpI Z k i)) (fun i => D (kpI Z k i)) (fun i => if i < j + 1 ∧ O (kpI Z k i) = 8 then numT Z k (A (kpI Z k i)) else A (kpI Z k i)) (fun i => if i < j + 1 ∧ O (kpI Z k i) = 9 then numT Z k (B (kpI Z k i)) else B (kpI Z k i)) (fun i => if i < j + 1 ∧ O (kpI Z k i) = 9 then numT Z k (C (kpI Z k i)) else C (kpI Z k i)) (fun i => X (kpI Z k i))) := (RJ.out.set2 j (numT Z k (t : Int))).mono (Nat.le_refl _) (fun i hi => rfl) (fun i hi => rfl) (fun i hi => by
                    by_cases e : i = j
                    · subst e; rw [if_pos ⟨by omega, h8⟩, if_pos rfl, ht]
                    · rw [if_neg e]; exact HStp.out 8 (fun i => A (kpI Z k i)) i (Or.inl e)) (fun i hi => HStp.out 9 (fun i => B (kpI Z k i)) i (Or.inr (by omega))) (fun i hi => HStp.out 9 (fun i => C (kpI Z k i)) i (Or.inr (by omega))) (fun i hi => rfl)
                  have S7 : Hid (Own (wr.setCell ⟨g, j * 6 + 2, none⟩ (.int .i64 (numT Z k (t : Int)))) w.heap.size (k + 1) (fun i => .int .i64 (clF Z k i))) := SJ.out.but ((Only.refl g wr).setCell (j * 6 + 2) _) NG.out
                  have B7 : Hid (Below w.heap.size w (wr.setCell ⟨g, j * 6 + 2, none⟩ (.int .i64 (numT Z k (t : Int))))) := BJ.out.setCell (p := ⟨g, j * 6 + 2, none⟩) (by show w.heap.size ≤ g; omega) _
                  clear RJ SJ BJ HStp h8 ht tA tB hAA
                  go_wp2
                  go_roundw
                  case rel => exact ⟨j + 1, by omega, by go_num, R7, S7, B7⟩
                  case measure => simp [intOf]; omega
                by_cases h9 : O (kpI Z k j) = 9
                · have hBB := tB h9
                  obtain ⟨t, ht⟩ : ∃ t : Nat, B (kpI Z k j) = (t : Int) := ⟨(B (kpI Z k j)).toNat, by omega⟩
                  obtain ⟨t', ht'⟩ : ∃ t : Nat, C (kpI Z k j) = (t : Int) := ⟨(C (kpI Z k j)).toNat, by omega⟩
                  have tk : t < k := by omega
                  have tk' : t' < k := by omega
                  rw [h9] at e0
                  rw [ht] at e3
                  have q0 : (t : Int) < ((k + 1 : Nat) : Int) := by omega
                  have q1 : (t' : Int) < ((k + 1 : Nat) : Int) := by omega
                  have ct := SJ.out.cell t (by omega)
                  rw [HCn.out t tk] at ct
                  have R7 := RJ.out.set3 j (numT Z k (t : Int))
                  have S7 := SJ.out.but ((Only.refl g wr).setCell (j * 6 + 3) (.int .i64 (numT Z k (t : Int)))) NG.out
                  have e4' := R7.c4 j hjp
                  rw [if_neg (by omega), ht'] at e4'
                  have z4' := R7.free (j * 6 + 4)
                  have ct' := S7.cell t' (by omega)
                  rw [HCn.out t' tk'] at ct'
                  have R8 : Hid (RowI ((wr.setCell ⟨g, j * 6 + 3, none⟩ (.int .i64 (numT Z k (t : Int)))).setCell ⟨g, j * 6 + 4, none⟩ (.int .i64 (numT Z k (t' : Int)))) g (p + 1) (fun i => O (kpI Z k i)) (fun i => D (kpI Z k i)) (fun i => if i < j + 1 ∧ O (kpI Z k i) = 8 then numT Z k (A (kpI Z k i)) else A (kpI Z k i)) (fun i => if i < j + 1 ∧ O (kpI Z k i) = 9 then numT Z k (B (kpI Z k i)) else B (kpI Z k i)) (fun i => if i < j + 1 ∧ O (kpI Z k i) = 9 then numT Z k (C (kpI Z k i)) else C (kpI Z k i)) (fun i => X (kpI Z k i))) := (R7.set4 j (numT Z k (t' : Int))).mono (Nat.le_refl _) (fun i hi => rfl) (fun i hi => rfl) (fun i hi => HStp.out 8 (fun i => A (kpI Z k i)) i (Or.inr (by omega))) (fun i hi => by
                    by_cases e : i = j
                    · subst e; rw [if_pos ⟨by omega, h9⟩, if_pos rfl, ht]
                    · rw [if_neg e]; exact HStp.out 9 (fun i => B (kpI Z k i)) i (Or.inl e)) (fun i hi => by
                    by_cases e : i = j
                    · subst e; rw [if_pos ⟨by omega, h9⟩, if_pos rfl, ht']
                    · rw [if_neg e]; exact HStp.out 9 (fun i => C (kpI Z k i)) i (Or.inl e)) (fun i hi => rfl)
                  have S8 : Hid (Own ((wr.setCell ⟨g, j * 6 + 3, none⟩ (.int .i64 (numT Z k (t : Int)))).setCell ⟨g, j * 6 + 4, none⟩ (.int .i64 (numT Z k (t' : Int)))) w.heap.size (k + 1) (fun i => .int .i64 (clF Z k i))) := S7.but ((Only.refl g _).setCell (j * 6 + 4) _) NG.out
                  have B8 : Hid (Below w.heap.size w ((wr.setCell ⟨g, j * 6 + 3, none⟩ (.int .i64 (numT Z k (t : Int)))).setCell ⟨g, j * 6 + 4, none⟩ (.int .i64 (numT Z k (t' : Int))))) := (BJ.out.setCell (p := ⟨g, j * 6 + 3, none⟩) (by show w.heap.size ≤ g; omega) _).setCell (p := ⟨g, j * 6 + 4, none⟩) (by show w.heap.size ≤ g; omega) _
                  clear RJ SJ BJ HStp h8 h9 ht ht' tA tB hBB R7 S7 e4 e2 z2 z4
                  go_wp2
                  go_roundw
                  case rel => exact ⟨j + 1, by omega, by go_num, R8, S8, B8⟩
                  case measure => simp [intOf]; omega
                · have f8 : (O (kpI Z k j) == 8) = false := by simp [h8]
                  have f9 : (O (kpI Z k j) == 9) = false := by simp [h9]
                  have R7 : Hid (RowI wr g (p + 1) (fun i => O (kpI Z k i)) (fun i => D (kpI Z k i)) (fun i => if i < j + 1 ∧ O (kpI Z k i) = 8 then numT Z k (A (kpI Z k i)) else A (kpI Z k i)) (fun i => if i < j + 1 ∧ O (kpI Z k i) = 9 then numT Z k (B (kpI Z k i)) else B (kpI Z k i)) (fun i => if i < j + 1 ∧ O (kpI Z k i) = 9 then numT Z k (C (kpI Z k i)) else C (kpI Z k i)) (fun i => X (kpI Z k i))) := RJ.out.mono (Nat.le_refl _) (fun i hi => rfl) (fun i hi => rfl) (fun i hi => HStp.out 8 (fun i => A (kpI Z k i)) i (Or.inr h8)) (fun i hi => HStp.out 9 (fun i => B (kpI Z k i)) i (Or.inr h9)) (fun i hi => HStp.out 9 (fun i => C (kpI Z k i)) i (Or.inr h9)) (fun i hi => rfl)
                  clear RJ HStp h8 h9 tA tB
                  go_wp2
                  go_roundw
                  case rel => exact ⟨j + 1, by omega, by go_num, R7, SJ, BJ⟩
                  case measure => simp [intOf]; omega
              · obtain rfl : j = p + 1 := by omega
                have i3' : ¬ ((p + 1 : Nat) : Int) < ((p + 1 : Nat) : Int) := by omega
                have HE : Hid (TkR wr (.slice (some ⟨g, 0, none⟩) (p + 1) cp) O D A B C X Z k) := by
                  obtain ⟨t1, t2, t3⟩ := HTT.out HTr.out
                  refine ⟨g, cp, by rw [t1], ?_⟩
                  rw [t1]
                  have tAf : ∀ (f : Nat → Int) (o : Int) (i : Nat), i < p + 1 → tkT O Z k (O (tkP O Z k i) == o) (f (tkP O Z k i)) = if i < p + 1 ∧ O (kpI Z k i) = o then numT Z k (f (kpI Z k i)) else f (kpI Z k i) := fun f o i hi => by
                    rw [t3, t2]
                    by_cases e : O (kpI Z k i) = o
                    · simp [e, hi]
                    · simp [e]
                  exact RJ.out.mono (Nat.le_refl _) (fun i hi => by show O _ = O _; rw [t2]) (fun i hi => by show D _ = D _; rw [t2]) (fun i hi => tAf A 8 i hi) (fun i hi => tAf B 9 i hi) (fun i hi => tAf C 9 i hi) (fun i hi => by show X _ = X _; rw [t2])
                clear RJ SJ
                go_wp2
                go_ret
                exact ⟨_, rfl, HE.out, BJ.out⟩
      have f11 : (lo == 11) = false := by simp [h11]
      have f11' : (lo != 11) = true := by simp [h11]
      have f8 : (lo == 8) = false := by simp [h8]
      have f8' : (lo != 8) = true := by simp [h8]
      have HF : takB O Z k = false := by rw [HTk.out, f11, f8]; rfl
      have NT := not_take HF HRk
      clear HRk HF HTk h11 h8 HTT HRW hlo
      go_wp2
      go_ret
      exact ⟨_, rfl, ⟨a, cap, by rw [NT.1]; rfl, NT.2⟩, HB.out⟩
end Go.Proofs.YtlfgboiejoiboaaDoor
