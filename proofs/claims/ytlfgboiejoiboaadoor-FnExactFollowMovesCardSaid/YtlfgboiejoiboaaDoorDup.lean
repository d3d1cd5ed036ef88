/- The program's DropUnreached: what the model answers. -/
import Derived.Test.YtlfgboiejoiboaaDoorWth
import Derived.Test.YtlfgboiejoiboaaDoorWhr
import Derived.Test.YtlfgboiejoiboaaDoorRcp
import Derived.Test.YtlfgboiejoiboaaDoorDru
namespace Go.Proofs.YtlfgboiejoiboaaDoor
open Go.ChangeShapes Go.WideShapes Go.ChangeAt Go.RowKit
set_option linter.unusedVariables false
theorem cntF_ext {Z Y : Nat → Bool} : ∀ m, (∀ i, i < m → Z i = Y i) → cntF Z m = cntF Y m
  | 0, _ => rfl
  | m + 1, h => by rw [cntF, cntF, cntF_ext m (fun i hi => h i (by omega)), h m (by omega)]
theorem keepL_ext {Z Y : Nat → Bool} : ∀ m, (∀ i, i < m → Z i = Y i) → keepL Z m = keepL Y m
  | 0, _ => rfl
  | m + 1, h => by rw [keepL, keepL, keepL_ext m (fun i hi => h i (by omega)), h m (by omega)]
theorem kpI_ext {Z Y : Nat → Bool} {n : Nat} (h : ∀ i, i < n → Z i = Y i) (i : Nat) : kpI Z n i = kpI Y n i := by unfold kpI; rw [keepL_ext n h]
theorem takB_ext {Z Y : Nat → Bool} {n : Nat} (O : Nat → Int) (h : ∀ i, i < n → Z i = Y i) : takB O Z n = takB O Y n := by
  unfold takB
  rw [cntF_ext n h, kpI_ext h]
theorem tkN_ext {Z Y : Nat → Bool} {n : Nat} (O : Nat → Int) (h : ∀ i, i < n → Z i = Y i) : tkN O Z n = tkN O Y n := by
  unfold tkN
  rw [takB_ext O h, cntF_ext n h]
theorem tkP_ext {Z Y : Nat → Bool} {n : Nat} (O : Nat → Int) (h : ∀ i, i < n → Z i = Y i) (i : Nat) : tkP O Z n i = tkP O Y n i := by
  unfold tkP
  rw [takB_ext O h, kpI_ext h]
theorem tkP_lt {Z : Nat → Bool} {n : Nat} (O : Nat → Int) (i : Nat) (hi : i < tkN O Z n) : tkP O Z n i < n := by
  unfold tkN at hi
  unfold tkP
  split at hi
  · rw [if_pos (by assumption)]; exact kpI_lt Z n i hi
  · rw [if_neg (by assumption)]; exact hi
theorem tkT_ext {Z Y : Nat → Bool} {n : Nat} (O : Nat → Int) (h : ∀ i, i < n → Z i = Y i) (b : Bool) (t : Int) (ht : b = true → 0 ≤ t ∧ t < n) : tkT O Z n b t = tkT O Y n b t := by
  unfold tkT
  rw [takB_ext O h]
  cases hb : b
  · rw [Bool.and_false, if_neg (by simp), if_neg (by simp)]
  · have := ht hb
    unfold numT
    rw [cntF_ext n h, cntF_ext t.toNat (fun i hi => h i (by omega))]
theorem tkr_ext {w : World} {v : Value} {O D A B C X : Nat → Int} {Z Y : Nat → Bool} {n : Nat} (T : TkR w v O D A B C X Z n) (h : ∀ i, i < n → Z i = Y i) (hT : Tgs O A B C n) : TkR w v O D A B C X Y n := by
  obtain ⟨g, c, hv, R⟩ := T
  rw [tkN_ext O h] at hv R
  refine ⟨g, c, hv, R.mono (Nat.le_refl _) (fun i hi => by show O _ = O _; rw [tkP_ext O h]) (fun i hi => by show D _ = D _; rw [tkP_ext O h]) (fun i hi => ?_) (fun i hi => ?_) (fun i hi => ?_) (fun i hi => by show X _ = X _; rw [tkP_ext O h])⟩
  · have hl := tkP_lt O i hi
    unfold tkA
    rw [tkP_ext O h]
    exact (tkT_ext O h _ _ (fun hb => (hT _ hl).1 (by simpa using hb))).symm
  · have hl := tkP_lt O i hi
    unfold tkB
    rw [tkP_ext O h]
    exact (tkT_ext O h _ _ (fun hb => ((hT _ hl).2 (by simpa using hb)).1)).symm
  · have hl := tkP_lt O i hi
    unfold tkB
    rw [tkP_ext O h]
    exact (tkT_ext O h _ _ (fun hb => ((hT _ hl).2 (by simpa using hb)).2)).symm
theorem mem_whL (Z : Nat → Bool) (n i : Nat) (hi : i < n) : memB (whL Z n) i = Z i := by
  unfold memB
  cases h : Z i
  · exact decide_eq_false (fun m => by have := ((whL_mem Z (i : Int) n).1 m).2.2; simp [h] at this)
  · exact decide_eq_true ((whL_mem Z (i : Int) n).2 ⟨by omega, by omega, by simpa using h⟩)
theorem IOwn.next {B : Nat} {w w' : World} {v : Value} {L : List Int} (h : IOwn B w v L) (b : Below w.heap.size w w') : IOwn B w' v L := by
  rcases h with h | ⟨g, c, h1, h2, h3, h4⟩
  · exact Or.inl h
  · exact Or.inr ⟨g, c, h1, h2, h3, h4.next b⟩
set_option maxRecDepth 100000 in
set_option maxHeartbeats 4000000 in
theorem unreached52 (n a cap : Nat) (O D A B C X : Nat → Int) (w : World) (R : RowI w a n O D A B C X) (n0 : 1 ≤ n) (n1 : n ≤ 600) (hb : Sucs O A B C n) : Calls Tryd.prog 52 #[.slice (some ⟨a, 0, none⟩) n cap] w fun e w' => ∃ v, e = .returned v ∧ IRow w' v (whL (unB O A B C n) n) ∧ Below w.heap.size w w' := by
  have z44 := zv44
  have h30 := reached30 n a cap O D A B C X w R n0 n1 hb
  have HR : Hid (RowI w a n O D A B C X) := R
  have hmf : ∀ (fn : Fn) (first cap : Array Value) (w : World), (Instr.makeFunc fn first cap).run Tryd.prog w = .ok (.func fn first cap) w := fun _ _ _ _ => rfl
  clear R hb
  have HUn : Hid (∀ i, unB O A B C n i = !rchB O A B C n i) := fun i => rfl
  generalize unB O A B C n = U at HUn ⊢
  generalize rchB O A B C n = F at h30 HUn
  go_enter Tryd.func52, Tryd.ntmps52
  go_wp2_with (first | (go_at_call 30; refine h30.mono ?_; rintro e w1 ⟨rfl, B1⟩) | (refine wpList_store_own rfl 44 _ _ rfl w1.heap.size rfl 600 _ _ rfl (own_vals w1 (fun _ => .bool false) 600 44) (fun _ => rfl) size44 ?_; intro w2 O2 K2; have B12 : Below w1.heap.size w1 w2 := ((Below.refl _ _).alloc (Nat.le_refl _) _).trans (K2.below (Nat.le_refl _) (by simp)); have B02 : Below w.heap.size w w2 := B1.trans (B12.mono B1.size); have HO2 : Hid (Own w2 w1.heap.size 600 fun i => .bool (F i)) := O2) | (go_at_call 81; refine (where_82 n a cap w1.heap.size O D A B C X U w2 (HR.out.next B02) n1 (fun i hi v b => by rw [HUn.out]; exact not82 i w1.heap.size _ _ _ _ _ _ F v (by omega) (HO2.out.next b))).mono ?_; rintro e w3 ⟨v3, rfl, I3, B3⟩))
  go_ret
  exact ⟨_, rfl, I3.row, B02.trans (B3.mono B02.size)⟩
set_option maxRecDepth 100000 in
set_option maxHeartbeats 4000000 in
theorem drop36 (n a cap : Nat) (O D A B C X : Nat → Int) (w : World) (R : RowI w a n O D A B C X) (n0 : 1 ≤ n) (n1 : n ≤ 600) (hb : Sucs O A B C n) (hX : Wds X n) (hT : Tgs O A B C n) : Calls Tryd.prog 36 #[.slice (some ⟨a, 0, none⟩) n cap] w fun e w' => ∃ v, e = .returned v ∧ (TkR w' v O D A B C X (unB O A B C n) n ∧ ∀ g, v.ownBlock = some g → w.heap.size ≤ g) ∧ Below w.heap.size w w' := by
  have h52 := unreached52 n a cap O D A B C X w R n0 n1 hb
  have HR : Hid (RowI w a n O D A B C X) := R
  have H51 : Hid (∀ v : World, ∀ s, RowI v a n O D A B C X → Sets v s [whL (unB O A B C n) n] → Calls Tryd.prog 51 #[.slice (some ⟨a, 0, none⟩) n cap, .slice (some ⟨s, 0, none⟩) 1 1] v fun e w' => ∃ u, e = .returned u ∧ (TkR w' u O D A B C X (unB O A B C n) n ∧ ∀ g, u.ownBlock = some g → v.heap.size ≤ g) ∧ Below v.heap.size v w') := fun v s r S => by
    refine (without51 n a cap s 1 1 O D A B C X [whL (unB O A B C n) n] v r S rfl (fun L hL t ht => ?_) (by omega) (fun L hL => ?_) n0 n1 hX hT).mono ?_
    · obtain rfl : L = whL (unB O A B C n) n := by simpa using hL
      have := (whL_mem _ t n).1 ht
      omega
    · obtain rfl : L = whL (unB O A B C n) n := by simpa using hL
      have := whL_len (unB O A B C n) n
      omega
    · rintro e w' ⟨u, rfl, ⟨T, hg⟩, b⟩
      exact ⟨u, rfl, ⟨tkr_ext T (fun i hi => by rw [show [whL (unB O A B C n) n].flatten = whL (unB O A B C n) n by simp]; exact mem_whL _ n i hi) hT, hg⟩, b⟩
  clear R hb hX hT
  generalize whL (unB O A B C n) n = L at h52 H51
  go_enter Tryd.func36, Tryd.ntmps36
  go_wp2_with (first | (go_at_call 52; refine h52.mono ?_; rintro e w1 ⟨v1, rfl, I1, B1⟩; obtain ⟨ad1, cp1, rfl⟩ := I1.is) | (go_at_call 51; refine (H51.out _ _ ((HR.out.next B1).next ((Below.refl _ _).alloc (Nat.le_refl _) _)) ?_).mono ?_))
  · intro i hi
    have : i = 0 := by simpa using hi
    subst this
    exact ⟨_, by simp, I1.next ((Below.refl _ _).alloc (Nat.le_refl _) _)⟩
  rintro e w2 ⟨u, rfl, ⟨T2, hg⟩, B2⟩
  go_wp2
  go_ret
  have BA := B1.alloc B1.size (.cells #[.slice ad1 L.length cp1] 54)
  exact ⟨_, rfl, ⟨T2, fun g hgg => by have := hg g hgg; have := BA.size; simp at *; omega⟩, BA.trans (B2.mono BA.size)⟩
set_option maxRecDepth 100000 in
set_option maxHeartbeats 4000000 in
theorem drop18 (n a cap : Nat) (O D A B C X : Nat → Int) (w : World) (G : Forms w) (R : RowI w a n O D A B C X) (hX : Wds X n) (hn : n ≤ 1048576) : Calls Tryd.prog 18 #[.slice (some ⟨a, 0, none⟩) n cap] w fun e w' => ∃ u, e = .returned (.tuple #[u, .bool (goodC O D A B C X n)]) ∧ (RowIV w' u (duN O D A B C X n) (fun i => O (tkP O (unB O A B C n) n i)) (fun i => D (tkP O (unB O A B C n) n i)) (tkA O A (unB O A B C n) n) (tkB O B (unB O A B C n) n) (tkB O C (unB O A B C n) n) (fun i => X (tkP O (unB O A B C n) n i)) ∧ ∀ g, u.ownBlock = some g → w.heap.size ≤ g) ∧ Below w.heap.size w w' := by
  have h9 := good11 n a cap O D A B C X w G R hX hn
  suffices H : Calls Tryd.prog 35 #[.slice (some ⟨a, 0, none⟩) n cap, .func (.func 36) #[] #[]] w fun e w' => ∃ u, e = .returned (.tuple #[u, .bool (goodC O D A B C X n)]) ∧ (RowIV w' u (duN O D A B C X n) (fun i => O (tkP O (unB O A B C n) n i)) (fun i => D (tkP O (unB O A B C n) n i)) (tkA O A (unB O A B C n) n) (tkB O B (unB O A B C n) n) (tkB O C (unB O A B C n) n) (fun i => X (tkP O (unB O A B C n) n i)) ∧ ∀ g, u.ownBlock = some g → w.heap.size ≤ g) ∧ Below w.heap.size w w' by
    clear h9 G R hX
    go_enter Tryd.func18, Tryd.ntmps18
    go_wp2_with (go_at_call 35; refine H.mono ?_; rintro e w1 ⟨u, rfl, U, B1⟩)
    go_ret2
    exact ⟨u, rfl, U, B1⟩
  cases hg : goodC O D A B C X n
  · have HV : Hid (duN O D A B C X n = 0) := by show _ = _; unfold duN; rw [hg]; rfl
    rw [hg] at h9
    clear hX R hg
    generalize duN O D A B C X n = m at HV ⊢
    go_enter Tryd.func35, Tryd.ntmps35
    go_wp2_with (go_at_call 29; refine h9.mono ?_; rintro e w1 ⟨rfl, B1⟩)
    go_ret2
    exact ⟨_, rfl, ⟨Or.inl ⟨HV.out, rfl⟩, fun g hg => by cases hg⟩, B1⟩
  · have HV : Hid (duN O D A B C X n = tkN O (unB O A B C n) n) := by show _ = _; unfold duN; rw [hg]; rfl
    obtain ⟨h6, h1, hb⟩ := goodC_bds hg
    have hT := tgs_of hg
    have hS := sucs_of hg
    have H36 : Hid (∀ v, RowI v a n O D A B C X → Calls Tryd.prog 36 #[.slice (some ⟨a, 0, none⟩) n cap] v fun e w' => ∃ u, e = .returned u ∧ (TkR w' u O D A B C X (unB O A B C n) n ∧ ∀ g, u.ownBlock = some g → v.heap.size ≤ g) ∧ Below v.heap.size v w') := fun v r => drop36 n a cap O D A B C X v r h1 h6 hS hX hT
    have HR : Hid (RowI w a n O D A B C X) := R
    rw [hg] at h9
    clear hX R hg hb hT hS
    generalize duN O D A B C X n = m at HV ⊢
    generalize unB O A B C n = U at HV H36 ⊢
    go_enter Tryd.func35, Tryd.ntmps35
    go_wp2_with (first | (go_at_call 29; refine h9.mono ?_; rintro e w1 ⟨rfl, B1⟩) | (go_at_call 36; refine (H36.out w1 (HR.out.next B1)).mono ?_; rintro e w2 ⟨u, rfl, ⟨T2, hg2⟩, B2⟩))
    go_ret2
    obtain ⟨g, c, rfl, R2⟩ := T2
    exact ⟨_, rfl, ⟨by rw [HV.out]; exact Or.inr ⟨g, c, rfl, R2⟩, fun q hq => by have := hg2 q hq; have := B1.size; omega⟩, B1.trans (B2.mono B1.size)⟩
end Go.Proofs.YtlfgboiejoiboaaDoor
