/- The program's DropUnread: what is unread is taken out again and again. -/
import Derived.Test.YtlfgboiejoiboaaDoorUnm
import Derived.Deep.AppendLies
namespace Go.Proofs.YtlfgboiejoiboaaDoor
open Go.ChangeShapes Go.WideShapes Go.ChangeAt Go.RowKit
set_option linter.unusedVariables false
theorem info54 : (Tryd.prog.info? 54).map (fun i => (i.zero, i.size, i.bytes)) = some (some (.slice none 0 0), 1, 24) := by kernel_rfl
theorem IRow.grown {w w' : World} {v : Value} {L : List Int} {row : Option Nat} (h : IRow w v L) (g : w.grownBy w' row) (hne : ∀ q, v.ownBlock = some q → some q ≠ row) : IRow w' v L := by
  rcases h with h | ⟨b, c, hv, hc, O⟩
  · exact Or.inl h
  · exact Or.inr ⟨b, c, hv, hc, own_grown O g (hne b (by rw [hv]; rfl))⟩
theorem IRow.lt {w : World} {v : Value} {L : List Int} (h : IRow w v L) : ∀ q, v.ownBlock = some q → q < w.heap.size := fun q hq => by
  rcases h with ⟨_, rfl⟩ | ⟨b, c, rfl, hc, O⟩
  · simp [Value.ownBlock] at hq
  · simp [Value.ownBlock] at hq
    subst hq
    exact O.hi
/-- Rows of numbers whose slices stand in a row that is being made. -/
def RegI (B : Nat) (w : World) (u : Value) (k : Nat) (f : Nat → List Int) : Prop := ∃ vs, w.ownsRow B 54 1 u k vs ∧ ∀ i, i < k → ∃ v, vs[i]? = some v ∧ IRow w v (f i) ∧ ∀ q, v.ownBlock = some q → u.ownBlock ≠ some q
theorem RegI.next {B : Nat} {w w' : World} {u : Value} {k : Nat} {f : Nat → List Int} (h : RegI B w u k f) (b : Below w.heap.size w w') : RegI B w' u k f := by
  obtain ⟨vs, h1, h2⟩ := h
  refine ⟨vs, h1.kept (row := none) ⟨b.os, b.tape, b.output, b.size, fun i hi _ => b.block i hi⟩ (by cases e : u.ownBlock <;> simp), fun i hi => ?_⟩
  obtain ⟨v, q1, q2, q3⟩ := h2 i hi
  exact ⟨v, q1, q2.next b, q3⟩
theorem RegI.more {B g k cap : Nat} {w w' : World} {u v : Value} {f : Nat → List Int} {vs : List Value} (h1 : w.ownsRow B 54 1 u k vs) (h2 : ∀ i, i < k → ∃ v, vs[i]? = some v ∧ IRow w v (f i) ∧ ∀ q, v.ownBlock = some q → u.ownBlock ≠ some q) (hv : IRow w v (f k)) (hvu : ∀ q, v.ownBlock = some q → u.ownBlock ≠ some q) (hown : w'.ownsRow B 54 1 (.slice (some ⟨g, 0, none⟩) (k + 1) cap) (k + 1) (vs ++ [v])) (hg : w.grownBy w' u.ownBlock) (hat : u.ownBlock = some g ∨ g = w.heap.size) : RegI B w' (.slice (some ⟨g, 0, none⟩) (k + 1) cap) (k + 1) f := by
  have hl : vs.length = k := by have := h1.1; omega
  have key : ∀ (u' : Value) (L : List Int), IRow w u' L → (∀ q, u'.ownBlock = some q → u.ownBlock ≠ some q) → IRow w' u' L ∧ ∀ q, u'.ownBlock = some q → (Value.slice (some ⟨g, 0, none⟩) (k + 1) cap).ownBlock ≠ some q := fun u' L i n => by
    refine ⟨i.grown hg (fun q hq e => n q hq e.symm), fun q hq e => ?_⟩
    have e : g = q := by simpa [Value.ownBlock] using e
    subst e
    rcases hat with e | e
    · exact n g hq e
    · have := i.lt g hq; omega
  refine ⟨vs ++ [v], hown, fun i hi => ?_⟩
  by_cases e : i < k
  · obtain ⟨v', q1, q2, q3⟩ := h2 i e
    obtain ⟨r1, r2⟩ := key v' _ q2 q3
    exact ⟨v', by rw [List.getElem?_append_left (by omega)]; exact q1, r1, r2⟩
  · obtain rfl : i = k := by omega
    obtain ⟨r1, r2⟩ := key v _ hv hvu
    exact ⟨v, by rw [List.getElem?_append_right (by omega), hl]; simp, r1, r2⟩
theorem Cd.rdLs_at (c : Cd) : ∀ k i, i < k → (c.rdLs k).getD i [] = opsL (c.O i) (c.A i) (c.B i) (c.C i) (c.X i)
  | 0, i, h => by omega
  | k + 1, i, h => by
    rw [Cd.rdLs]
    have hl := c.rdLs_len k
    by_cases e : i < k
    · rw [List.getD_eq_getElem?_getD, List.getElem?_append_left (by omega), ← List.getD_eq_getElem?_getD]
      exact c.rdLs_at k i e
    · obtain rfl : i = k := by omega
      rw [List.getD_eq_getElem?_getD, List.getElem?_append_right (by omega), hl]
      simp
set_option maxRecDepth 100000 in
set_option maxHeartbeats 4000000 in
theorem unread55 (a cap : Nat) (c : Cd) (K : Ok c) (w : World) (G : Forms w) (R : RowI w a c.n c.O c.D c.A c.B c.C c.X) : Calls Tryd.prog 55 #[.slice (some ⟨a, 0, none⟩) c.n cap] w fun e w' => ∃ v, e = .returned v ∧ IRow w' v (whL c.un1 c.n) ∧ Below w.heap.size w w' := by
  obtain ⟨i6, hi6, hz60, hz61, hz62⟩ := info_parts info54
  have z44 := zv44
  have hmf : ∀ (fn : Fn) (first cap : Array Value) (w : World), (Instr.makeFunc fn first cap).run Tryd.prog w = .ok (.func fn first cap) w := fun _ _ _ _ => rfl
  have HR : Hid (RowI w a c.n c.O c.D c.A c.B c.C c.X) := R
  have HK : Hid (Ok c) := K
  have HF : Hid (∀ v, Below w.heap.size w v → Forms v) := fun v b => G.below b
  obtain ⟨n, hn⟩ : ∃ n, c.n = n := ⟨_, rfl⟩
  have HN : Hid (c.n = n) := hn
  have n0 := K.n0
  have n1 := K.n1
  rw [hn] at n0 n1 ⊢
  clear R K G hn
  go_enter Tryd.func55, Tryd.ntmps55
  go_wp2
  go_loopw [3, 9] (fun vv i wr => ∃ (k : Nat) (u : Value), k ≤ n ∧ i = .int .i64 k ∧ u = vv ∧ Hid (RegI w.heap.size wr u k (fun i => opsL (c.O i) (c.A i) (c.B i) (c.C i) (c.X i))) ∧ Hid (Below w.heap.size w wr)) (fun _ i _ => n - (intOf i).toNat)
  case atStart => exact ⟨0, _, by omega, rfl, rfl, ⟨[], World.ownsRow_nil _ _ _ _, fun i hi => by omega⟩, Below.refl _ _⟩
  case round =>
    obtain ⟨k, u, hk, rfl, rfl, HU, HB⟩ := hrel
    by_cases hkn : k < n
    · have i1 : (k : Int) < (n : Int) := by omega
      have i0 : (0 : Int) ≤ (k : Int) := by omega
      have hkc : k < c.n := by rw [HN.out]; exact hkn
      have RK := HR.out.next HB.out
      have c0 := RK.c0 k hkc
      have c1 := RK.c1 k hkc
      have c2 := RK.c2 k hkc
      have c3 := RK.c3 k hkc
      have c4 := RK.c4 k hkc
      have c5 := RK.c5 k hkc
      have BA : Hid (Below wr.heap.size wr (wr.alloc (.cells #[.int .i64 (c.O k), .int .i64 (c.D k), .int .i64 (c.A k), .int .i64 (c.B k), .int .i64 (c.C k), .int .u32 (c.X k)] 40))) := (Below.refl _ _).alloc (Nat.le_refl _) _
      have UA : Hid (RegI w.heap.size (wr.alloc (.cells #[.int .i64 (c.O k), .int .i64 (c.D k), .int .i64 (c.A k), .int .i64 (c.B k), .int .i64 (c.C k), .int .u32 (c.X k)] 40)) u k (fun i => opsL (c.O i) (c.A i) (c.B i) (c.C i) (c.X i))) := HU.out.next BA.out
      have h83 := operands38 (c.O k) (c.D k) (c.A k) (c.B k) (c.C k) (c.X k) (wr.alloc (.cells #[.int .i64 (c.O k), .int .i64 (c.D k), .int .i64 (c.A k), .int .i64 (c.B k), .int .i64 (c.C k), .int .u32 (c.X k)] 40)) (HF.out _ (HB.out.trans (BA.out.mono HB.out.size))) (HK.out.wd k hkc).1 (HK.out.wd k hkc).2 (HK.out.op k hkc) (HK.out.call k hkc)
      have HUb : Hid (∀ q, u.ownBlock = some q → q < wr.heap.size) := fun q hq => by obtain ⟨vs, h1, _⟩ := HU.out; exact (h1.lt q hq).2
      clear RK HU hkc
      go_wp2_with (first | (go_at_call 83; refine h83.mono ?_; rintro e w1 ⟨v1, rfl, I1, B1⟩; obtain ⟨ad1, cp1, rfl⟩ := I1.row.is; obtain ⟨vs, V1, V2⟩ := (UA.out.next B1).next ((Below.refl _ _).alloc (Nat.le_refl _) (.cells #[.slice ad1 (opsL (c.O k) (c.A k) (c.B k) (c.C k) (c.X k)).length cp1] 54))) | (at_builtin; refine wpList_append_lies _ rfl _ _ 80 rfl w.heap.size 54 i6 (.slice none 0 0) 1 24 Tryd.underlying80 hi6 hz60 hz61 hz62 rfl (by decide) _ _ _ rfl V1 ⟨_, 0, none⟩ 1 1 [.slice ad1 (opsL (c.O k) (c.A k) (c.B k) (c.C k) (c.X k)).length cp1] rfl rfl ?_ ?_ (by decide) ?_ ?_ ?_ _ rfl ?_))
      · intro j u hj
        match j, hj with
        | 0, hj => simp at hj; subst hj; simp [Addr.add]
      · intro u hu; simp at hu; subst hu; rfl
      · unfold maxLen; omega
      · omega
      · have := HB.out.size; have := BA.out.size; have := B1.size; simp at *; omega
      intro g3 c3' w3 hown hgrow hat hlt
      have BAl : Below w1.heap.size w1 (w1.alloc (.cells #[.slice ad1 (opsL (c.O k) (c.A k) (c.B k) (c.C k) (c.X k)).length cp1] 54)) := (Below.refl _ _).alloc (Nat.le_refl _) _
      have B3 : Hid (Below w.heap.size w w3) := by
        have h1 := HB.out.trans (BA.out.mono HB.out.size)
        have h2 := h1.trans (B1.mono h1.size)
        have h3 := h2.trans (BAl.mono h2.size)
        exact h3.grown hgrow h3.size (fun q hq => (V1.lt q hq).1)
      have U3 : Hid (RegI w.heap.size w3 (.slice (some ⟨g3, 0, none⟩) (k + 1) c3') (k + 1) (fun i => opsL (c.O i) (c.A i) (c.B i) (c.C i) (c.X i))) := RegI.more V1 V2 ((I1.row).next BAl) (fun q hq e => by
        have h1 := HUb.out q e
        rcases I1 with ⟨_, hv⟩ | ⟨b, cc, hv, _, hb, _⟩
        · rw [hv] at hq; simp [Value.ownBlock] at hq
        · rw [hv] at hq; simp [Value.ownBlock] at hq; subst hq; simp at hb; omega) hown hgrow (hat.imp id (fun e => by rw [e]; simp))
      clear hown hgrow hat hlt V1 V2 UA BA HB BAl B1 I1
      go_wp2
      go_roundw
      case rel => exact ⟨k + 1, _, by omega, by go_num, rfl, U3, B3⟩
      case measure => simp [intOf]; omega
    · obtain rfl : k = n := by omega
      have i1 : ¬ (k : Int) < (k : Int) := by omega
      obtain ⟨vs, V1, V2⟩ := HU.out
      obtain ⟨g, cp, rfl, hgB, hgl⟩ := World.ownsRow.form V1 (by omega)
      have HSt : Sets wr g (c.rdLs k) := fun i hi => by
        rw [c.rdLs_len] at hi
        obtain ⟨v, q1, q2, _⟩ := V2 i hi
        exact ⟨v, by rw [V1.cellAt i (by omega)]; exact q1, by rw [c.rdLs_at k i hi]; exact q2⟩
      have h78 := joined78 g k cp (c.rdLs k) wr (c.rdLs_len k) HSt (fun L hL t ht => by
        obtain ⟨i, hi, rfl⟩ := c.rdLs_mem L k hL
        have := HK.out.regs i (by rw [HN.out]; exact hi) t ht
        omega) (by omega) (fun L hL => by
        obtain ⟨i, hi, rfl⟩ := c.rdLs_mem L k hL
        have := opsL_len (c.O i) (c.A i) (c.B i) (c.C i) (c.X i)
        omega)
      have HU1 : Hid (∀ i, c.un1 i = (nmd (c.O i) 0 && !memB (c.rdLs k).flatten (c.D i).toNat)) := fun i => by show (nmd (c.O i) 0 && !memB (c.rdL c.n) (c.D i).toNat) = _; rw [HN.out]; rfl
      have HRn : Hid (RowI w a k c.O c.D c.A c.B c.C c.X) := by have := HR.out; rw [HN.out] at this; exact this
      have HDn : Hid (∀ i, i < k → 0 ≤ c.D i ∧ c.D i < 400) := fun i hi => HK.out.d i (by rw [HN.out]; exact hi)
      clear V1 V2 HSt HU
      generalize memB (c.rdLs k).flatten = F at h78 HU1
      go_wp2_with (first | (go_at_call 78; refine h78.mono ?_; rintro e w1 ⟨rfl, B1⟩) | (refine wpList_store_own rfl 44 _ _ rfl w1.heap.size rfl 600 _ _ rfl (own_vals w1 (fun _ => .bool false) 600 44) (fun _ => rfl) size44 ?_; intro w2 O2 K2; have B12 : Below w1.heap.size w1 w2 := ((Below.refl _ _).alloc (Nat.le_refl _) _).trans (K2.below (Nat.le_refl _) (by simp)); have B02 : Below w.heap.size w w2 := (HB.out.trans (B1.mono HB.out.size)).trans (B12.mono (by have := HB.out.size; have := B1.size; omega)); have HO2 : Hid (Own w2 w1.heap.size 600 fun i => .bool (F i)) := O2) | (go_at_call 81; refine (where_84 k a cap w1.heap.size _ _ _ _ _ _ c.un1 w2 (HRn.out.next B02) n1 (fun i hi v b => by rw [HU1.out]; exact unread84 i w1.heap.size _ _ _ _ _ _ F v (HDn.out i hi).1 (by have := (HDn.out i hi).2; omega) (HO2.out.next b))).mono ?_; rintro e w3 ⟨v3, rfl, I3, B3⟩))
      go_ret
      exact ⟨_, rfl, I3.row, B02.trans (B3.mono B02.size)⟩
set_option maxRecDepth 100000 in
set_option maxHeartbeats 4000000 in
theorem idle56 (a cap : Nat) (c : Cd) (K : Ok c) (w : World) (R : RowI w a c.n c.O c.D c.A c.B c.C c.X) : Calls Tryd.prog 56 #[.slice (some ⟨a, 0, none⟩) c.n cap] w fun e w' => ∃ v, e = .returned v ∧ IRow w' v (whL c.un2 c.n) ∧ Below w.heap.size w w' := by
  have h := where_86 c.n a cap c.O c.D c.A c.B c.C c.X c.un2 w R K.n1 (fun i hi v b => idle86 i _ _ _ _ _ _ v)
  clear R K
  go_enter Tryd.func56, Tryd.ntmps56
  go_wp2_with (go_at_call 81; refine h.mono ?_; rintro e w1 ⟨v1, rfl, I1, B1⟩)
  go_ret
  exact ⟨_, rfl, I1.row, B1⟩
theorem un_mem (c : Cd) (i : Nat) (hi : i < c.n) : memB [whL c.un1 c.n, whL c.un2 c.n].flatten i = c.un i := by
  have e : [whL c.un1 c.n, whL c.un2 c.n].flatten = whL c.un1 c.n ++ whL c.un2 c.n := by simp
  rw [e]
  have h1 := mem_whL c.un1 c.n i hi
  have h2 := mem_whL c.un2 c.n i hi
  unfold memB at *
  unfold Cd.un
  rw [← h1, ← h2, ← Bool.decide_or]
  congr 1
  exact propext List.mem_append
/-- The row of a code. -/
def RowC (w : World) (g : Nat) (c : Cd) : Prop := RowI w g c.n c.O c.D c.A c.B c.C c.X
set_option maxRecDepth 100000 in
set_option maxHeartbeats 4000000 in
theorem drop38 (n a cap : Nat) (c0 : Cd) (K : Ok c0) (w : World) (G : Forms w) (hn : c0.n = n) (R : RowC w a c0) : Calls Tryd.prog 38 #[.slice (some ⟨a, 0, none⟩) n cap] w fun e w' => ∃ g cp, e = .returned (.slice (some ⟨g, 0, none⟩) (usN n c0).n cp) ∧ w.heap.size ≤ g ∧ RowC w' g (usN n c0) ∧ Below w.heap.size w w' := by
  have HF : Hid (∀ v, Below w.heap.size w v → Forms v) := fun v b => G.below b
  have HR : Hid (RowC w a c0) := R
  have HK : Hid (Ok c0) := K
  have HN : Hid (c0.n = n) := hn
  obtain ⟨FIN, hF⟩ : ∃ F, usN n c0 = F := ⟨_, rfl⟩
  have HFin : Hid (usN n c0 = FIN) := hF
  rw [hF]
  clear R K G hF hn
  go_enter Tryd.func38, Tryd.ntmps38
  go_wp2
  go_loopg [0] n (fun gk vv wr => ∃ (c : Cd) (g cp f : Nat), gk = c.n ∧ vv = .slice (some ⟨g, 0, none⟩) gk cp ∧ Hid (Ok c) ∧ Hid (RowC wr g c) ∧ Hid (c.n ≤ f ∧ usN f c = FIN) ∧ Hid (Below w.heap.size w wr))
  case atStart => exact ⟨c0, a, cap, n, HN.out.symm, rfl, HK, HR, ⟨by rw [HN.out]; exact Nat.le_refl _, HFin.out⟩, Below.refl _ _⟩
  case round =>
    obtain ⟨c, g, cp, f, hgk, rfl, K, R, Fu, HB⟩ := hrel
    subst hgk
    clear HR HK HN HFin
    have h55 := unread55 g cp c K.out wr (HF.out _ HB.out) R.out
    have H56 : Hid (∀ v, RowC v g c → Calls Tryd.prog 56 #[.slice (some ⟨g, 0, none⟩) c.n cp] v fun e w' => ∃ u, e = .returned u ∧ IRow w' u (whL c.un2 c.n) ∧ Below v.heap.size v w') := fun v r => idle56 g cp c K.out v r
    have H51 : Hid (∀ v : World, ∀ s, RowC v g c → Sets v s [whL c.un1 c.n, whL c.un2 c.n] → Calls Tryd.prog 51 #[.slice (some ⟨g, 0, none⟩) c.n cp, .slice (some ⟨s, 0, none⟩) 2 2] v fun e w' => ∃ q cq, e = .returned (.slice (some ⟨q, 0, none⟩) c.tk.n cq) ∧ v.heap.size ≤ q ∧ RowC w' q c.tk ∧ Below v.heap.size v w') := fun v s r S => by
      refine (without51 c.n g cp s 2 2 c.O c.D c.A c.B c.C c.X [whL c.un1 c.n, whL c.un2 c.n] v r S rfl (fun L hL t ht => ?_) (by omega) (fun L hL => ?_) K.out.n0 K.out.n1 K.out.wd K.out.tgs).mono ?_
      · have hL : L = whL c.un1 c.n ∨ L = whL c.un2 c.n := by simpa using hL
        have := K.out.n1
        rcases hL with rfl | rfl
        · have := (whL_mem _ t c.n).1 ht; omega
        · have := (whL_mem _ t c.n).1 ht; omega
      · have hL : L = whL c.un1 c.n ∨ L = whL c.un2 c.n := by simpa using hL
        have := K.out.n1
        rcases hL with rfl | rfl
        · have := whL_len c.un1 c.n; omega
        · have := whL_len c.un2 c.n; omega
      · rintro e w' ⟨u, rfl, ⟨T, hg⟩, b⟩
        obtain ⟨q, cq, rfl, RR⟩ := tkr_ext T (fun i hi => un_mem c i hi) K.out.tgs
        exact ⟨q, cq, rfl, hg q rfl, RR, b⟩
    generalize whL c.un1 c.n = L1 at h55 H51
    generalize whL c.un2 c.n = L2 at H56 H51
    by_cases e : c.tk.n = c.n
    · have HE : Hid (∀ v q, RowC v q c.tk → RowC v q FIN) := fun v q r => by
        rw [← Fu.out.2, usN_end e]
        have r : RowI v q c.tk.n c.tk.O c.tk.D c.tk.A c.tk.B c.tk.C c.tk.X := r
        rw [e] at r
        exact tk_same K.out.tgs e r
      have HEn : Hid (FIN.n = c.n) := by show _ = _; rw [← Fu.out.2, usN_end e]
      rw [e] at H51
      clear Fu K e
      go_wp2_with (first | (go_at_call 55; refine h55.mono ?_; rintro e w1 ⟨v1, rfl, I1, B1⟩; obtain ⟨ad1, cp1, rfl⟩ := I1.is) | (go_at_call 56; refine (H56.out w1 (R.out.next B1)).mono ?_; rintro e w2 ⟨v2, rfl, I2, B2⟩; obtain ⟨ad2, cp2, rfl⟩ := I2.is) | (go_at_call 51; refine (H51.out _ _ (((R.out.next B1).next B2).next ((Below.refl _ _).alloc (Nat.le_refl _) _)) ?_).mono ?_))
      · intro i hi
        have : i = 0 ∨ i = 1 := by simp at hi; omega
        rcases this with rfl | rfl
        · exact ⟨_, by simp, (I1.next B2).next ((Below.refl _ _).alloc (Nat.le_refl _) _)⟩
        · exact ⟨_, by simp, I2.next ((Below.refl _ _).alloc (Nat.le_refl _) _)⟩
      rintro e w3 ⟨q, cq, rfl, hq, R3, B3⟩
      go_wp2
      go_ret
      have B02 := (HB.out.trans (B1.mono HB.out.size)).trans (B2.mono (by have := HB.out.size; have := B1.size; omega))
      have BA := B02.alloc B02.size (.cells #[.slice ad1 L1.length cp1, .slice ad2 L2.length cp2] 54)
      exact ⟨q, cq, by rw [HEn.out]; rfl, by have := BA.size; omega, HE.out _ _ R3, BA.trans (B3.mono BA.size)⟩
    · obtain ⟨f', hf', he⟩ := usN_more e Fu.out.1
      have HFn : Hid (c.tk.n ≤ f' ∧ usN f' c.tk = FIN) := ⟨hf', by rw [← he]; exact Fu.out.2⟩
      have HKn : Hid (Ok c.tk) := K.out.tk
      have hlt : Hid (c.tk.n < c.n) := by have := c.tk_le; show _ < _; omega
      have hne : (((c.tk.n : Nat) : Int) == ((c.n : Nat) : Int)) = false := by simp; omega
      generalize c.tk = d at H51 HFn HKn hlt hne
      clear Fu K e he hf'
      go_wp2_with (first | (go_at_call 55; refine h55.mono ?_; rintro e w1 ⟨v1, rfl, I1, B1⟩; obtain ⟨ad1, cp1, rfl⟩ := I1.is) | (go_at_call 56; refine (H56.out w1 (R.out.next B1)).mono ?_; rintro e w2 ⟨v2, rfl, I2, B2⟩; obtain ⟨ad2, cp2, rfl⟩ := I2.is) | (go_at_call 51; refine (H51.out _ _ (((R.out.next B1).next B2).next ((Below.refl _ _).alloc (Nat.le_refl _) _)) ?_).mono ?_))
      · intro i hi
        have : i = 0 ∨ i = 1 := by simp at hi; omega
        rcases this with rfl | rfl
        · exact ⟨_, by simp, (I1.next B2).next ((Below.refl _ _).alloc (Nat.le_refl _) _)⟩
        · exact ⟨_, by simp, I2.next ((Below.refl _ _).alloc (Nat.le_refl _) _)⟩
      rintro e w3 ⟨q, cq, rfl, hq, R3, B3⟩
      have B02 := (HB.out.trans (B1.mono HB.out.size)).trans (B2.mono (by have := HB.out.size; have := B1.size; omega))
      have BA := B02.alloc B02.size (.cells #[.slice ad1 L1.length cp1, .slice ad2 L2.length cp2] 54)
      have HB3 : Hid (Below w.heap.size w w3) := BA.trans (B3.mono BA.size)
      have HR3 : Hid (RowC w3 q d) := R3
      clear B02 BA B3 R3 I1 I2 B1 B2 hq
      go_wp2
      go_roundg d.n
      case measure => exact hlt.out
      case rel => exact ⟨d, q, cq, f', rfl, rfl, HKn, HR3, HFn, HB3⟩
end Go.Proofs.YtlfgboiejoiboaaDoor
