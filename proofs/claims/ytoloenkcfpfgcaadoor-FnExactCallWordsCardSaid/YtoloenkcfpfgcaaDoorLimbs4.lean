/- Contract of the model's sum of limbs (l1AddD): digit by digit with what is carried; conditions: both rows stand in memory, at most a million limbs each, each below 10^9. Contract of the model's difference of limbs (l1SubD): digit by digit with what is borrowed; conditions: both rows stand in memory, at most a million limbs each, each below 10^9. Contract of the model's product of limbs with a number (l1MulD): digit by digit with what is carried, noughts at the end left off; conditions: the row stands in memory, at most a million limbs, each below 10^9, the number not above 10^9. -/
import Derived.Test.YtoloenkcfpfgcaaDoorLimbs
namespace Go.Proofs.YtoloenkcfpfgcaaDoor
open Go.ChangeShapes Go.WideShapes Go.ChangeAt Go.RowKit

/-- A row of limbs that the call itself made: block o, n limbs, each may be written. -/
structure Own (w : World) (B o n : Nat) (f : Nat → Nat) : Prop where
  cell : Limbs w o n f
  free : ∀ i, w.frozen? ⟨o, i, none⟩ = false
  lo : B ≤ o
  hi : o < w.heap.size
theorem Own.set {w : World} {B o n : Nat} {f g : Nat → Nat} (h : Own w B o n f) (j x : Nat) (hj : j < n) (hg : ∀ i, i < n → g i = if i = j then x else f i) : Own (w.setCell ⟨o, j, none⟩ (.int .u32 (x : Int))) B o n g := by
  refine ⟨fun i hi => ?_, fun i => ?_, h.lo, by simpa using h.hi⟩
  · rw [hg i hi]
    by_cases e : i = j
    · subst e
      rw [if_pos rfl]
      exact World.cell?_setCell_same' w _ _ (by rw [h.cell i hj]; rfl)
    · rw [if_neg e]
      have hne : (⟨o, j, none⟩ : Addr) ≠ ⟨o, i, none⟩ := by
        intro k; injection k with _ k2; exact e k2.symm
      rw [World.cell?_setCell_other (h := hne)]
      exact h.cell i hi
  · simp [h.free i]
theorem Own.set' {w : World} {B o n : Nat} {f g : Nat → Nat} (h : Own w B o n f) (j x : Nat) (v : Int) (hv : v = (x : Int)) (hj : j < n) (hg : ∀ i, i < n → g i = if i = j then x else f i) : Own (w.setCell ⟨o, j, none⟩ (.int .u32 v)) B o n g := by
  subst hv; exact h.set j x hj hg
theorem own_made {w : World} {B n : Nat} {w' : World} (h : w'.ownsRow B 23 1 (.slice (some ⟨w.heap.size, 0, none⟩) n n) n (madeCells #[.int .u32 0] (n * 1)).toList) (hb : B ≤ w.heap.size) (hs : w.heap.size < w'.heap.size) : Own w' B w.heap.size n (fun _ => 0) := by
  refine ⟨fun i hi => ?_, fun i => h.frozenAt i, hb, hs⟩
  rw [h.cellAt i (by omega)]
  simp [madeCells, hi, Nat.mod_one]

/-- What stands at a place of a row of n limbs: 0 beyond its end. -/
def pad (n : Nat) (d : Nat → Nat) (i : Nat) : Nat := if i < n then d i else 0
/-- What is carried into a place. -/
def carry (x y : Nat → Nat) : Nat → Nat
  | 0 => 0
  | i + 1 => (carry x y i + x i + y i) / 1000000000
def addDig (x y : Nat → Nat) (i : Nat) : Nat := (carry x y i + x i + y i) % 1000000000
theorem carry_le (x y : Nat → Nat) (hx : ∀ i, x i < 1000000000) (hy : ∀ i, y i < 1000000000) : ∀ i, carry x y i ≤ 1
  | 0 => by simp [carry]
  | i + 1 => by
    have h := carry_le x y hx hy i
    have a := hx i
    have b := hy i
    unfold carry
    omega
theorem info23 : (Tryd.prog.info? 23).map (fun i => (i.zero, i.size, i.bytes)) = some (some (.int .u32 0), 1, 4) := by kernel_rfl

set_option maxRecDepth 100000 in
set_option maxHeartbeats 2000000 in
theorem addD_any (n m a b ca cb N : Nat) (sa sb : Value) (d e : Nat → Nat) (w : World) (hsa : sa = .slice (some ⟨a, 0, none⟩) n ca) (hsb : sb = .slice (some ⟨b, 0, none⟩) m cb) (hN : N = max n m) (hn : n ≤ 1000000) (hm : m ≤ 1000000)
    (ha : Limbs w a n d) (hb : Limbs w b m e) (la : a < w.heap.size) (lb : b < w.heap.size) (hd : ∀ i, d i < 1000000000) (he : ∀ i, e i < 1000000000) (x y : Nat → Nat) (hx : x = pad n d) (hy : y = pad m e) :
    Calls Tryd.prog 67 #[sa, sb] w fun r w' => r = .returned (.slice (some ⟨w.heap.size, 0, none⟩) (N + 1) (N + 1)) ∧ Own w' w.heap.size w.heap.size (N + 1) (addDig x y) ∧ Below w.heap.size w w' := by
  subst hsa hsb
  obtain ⟨i0, hi, hz0, hz1, hz2⟩ := info_parts info23
  by_cases hnm : n < m
  · have hN' : N = m := by omega
    clear hN
    subst hN'
    have x9 : ∀ i, x i < 1000000000 := fun i => by rw [hx]; unfold pad; split; exact hd i; decide
    have y9 : ∀ i, y i < 1000000000 := fun i => by rw [hy]; unfold pad; split; exact he i; decide
    have HX : Hid (x = pad n d) := hx
    have HY : Hid (y = pad N e) := hy
    have X9 : Hid (∀ i, x i < 1000000000) := x9
    have Y9 : Hid (∀ i, y i < 1000000000) := y9
    clear hx hy x9 y9
    go_enter Tryd.func67, Tryd.ntmps67
    go_wp2_with (at_make; refine wpList_make_full _ rfl _ _ 22 rfl w.heap.size 23 i0 (.int .u32 0) 1 Tryd.underlying22 hi hz0 hz1 _ _ _ _ (N + 1) rfl rfl (by first | rfl | omega) (by first | rfl | omega) (by rw [hz2]; omega) (by unfold maxLen; omega) (Nat.le_refl _) ?_; intro w1 hown hgrow)
    have O1 : Own w1 w.heap.size w.heap.size (N + 1) (fun _ => 0) := own_made hown (Nat.le_refl _) (hown.lt _ rfl).2
    have B1 : Below w.heap.size w w1 := (Below.refl _ _).grown hgrow (Nat.le_refl _) (by simp)
    clear hown hgrow
    go_loopw [7, 8] (fun c i wr => ∃ k : Nat, k ≤ N + 1 ∧ i = .int .i64 k ∧ c = .int .u64 (carry x y k : Nat) ∧ Own wr w.heap.size w.heap.size (N + 1) (fun j => if j < k then addDig x y j else 0) ∧ Below w.heap.size w wr) (fun _ i _ => (N + 1) - (intOf i).toNat)
    case atStart => exact ⟨0, by omega, rfl, rfl, ⟨fun j hj => by simpa using O1.cell j hj, O1.free, O1.lo, O1.hi⟩, B1⟩
    case round =>
      obtain ⟨k, hk, rfl, rfl, OK, BK⟩ := hrel
      by_cases hkN : k ≤ N
      · have cl := carry_le x y X9.out Y9.out k
        have xk := X9.out k
        have yk := Y9.out k
        have f0 := OK.free k
        have g0 : wr.cell? ⟨w.heap.size, k, none⟩ = some (.int .u32 0) := by have := OK.cell k (by omega); simpa using this
        have ca := BK.cell (p := ⟨a, k, none⟩) la
        have cb' := BK.cell (p := ⟨b, k, none⟩) lb
        have i0 : (0 : Int) ≤ (k : Int) := by omega
        have i1 : (k : Int) < ((N + 1 : Nat) : Int) := by omega
        obtain ⟨C, hC⟩ : ∃ C, carry x y k = C := ⟨_, rfl⟩
        rw [hC] at cl ⊢
        have HC : Hid (carry x y k = C) := hC
        clear hC
        by_cases kn : k < n
        · have cd : wr.cell? ⟨a, k, none⟩ = some (.int .u32 (d k : Int)) := ca.trans (ha k kn)
          have dk := hd k
          have hxk : x k = d k := by rw [HX.out]; simp [pad, kn]
          by_cases km : k < N
          · have ce : wr.cell? ⟨b, k, none⟩ = some (.int .u32 (e k : Int)) := cb'.trans (hb k km)
            have ek := he k
            have hyk : y k = e k := by rw [HY.out]; simp [pad, km]
            have HXK : Hid (x k = d k) := hxk
            have HYK : Hid (y k = e k) := hyk
            clear hxk hyk xk yk ca cb'
            go_wp2
            go_roundw
            case rel => exact ⟨k + 1, by omega, by go_num, by have h1 := HC.out; have h2 := HXK.out; have h3 := HYK.out; simp only [carry, h1, h2, h3]; first | rfl | go_num | (congr 1; omega), OK.set' k (addDig x y k) _ (by have h1 := HC.out; have h2 := HXK.out; have h3 := HYK.out; simp only [addDig, h1, h2, h3]; omega) (by omega) (fun j hj => by by_cases e1 : j = k; subst e1; simp; rw [if_neg e1]; by_cases e2 : j < k; rw [if_pos e2, if_pos (by omega)]; rw [if_neg e2, if_neg (by omega)]), BK.setCell (Nat.le_refl _) _⟩
            case measure => simp [intOf]; omega
          · omega
        · have hxk : x k = 0 := by rw [HX.out]; simp [pad, kn]
          by_cases km : k < N
          · have ce : wr.cell? ⟨b, k, none⟩ = some (.int .u32 (e k : Int)) := cb'.trans (hb k km)
            have ek := he k
            have hyk : y k = e k := by rw [HY.out]; simp [pad, km]
            have HXK : Hid (x k = 0) := hxk
            have HYK : Hid (y k = e k) := hyk
            clear hxk hyk xk yk ca cb'
            go_wp2
            go_roundw
            case rel => exact ⟨k + 1, by omega, by go_num, by have h1 := HC.out; have h2 := HXK.out; have h3 := HYK.out; simp only [carry, h1, h2, h3]; first | rfl | go_num | (congr 1; omega), OK.set' k (addDig x y k) _ (by have h1 := HC.out; have h2 := HXK.out; have h3 := HYK.out; simp only [addDig, h1, h2, h3]; omega) (by omega) (fun j hj => by by_cases e1 : j = k; subst e1; simp; rw [if_neg e1]; by_cases e2 : j < k; rw [if_pos e2, if_pos (by omega)]; rw [if_neg e2, if_neg (by omega)]), BK.setCell (Nat.le_refl _) _⟩
            case measure => simp [intOf]; omega
          · have hyk : y k = 0 := by rw [HY.out]; simp [pad, km]
            have HXK : Hid (x k = 0) := hxk
            have HYK : Hid (y k = 0) := hyk
            clear hxk hyk xk yk ca cb'
            go_wp2
            go_roundw
            case rel => exact ⟨k + 1, by omega, by go_num, by have h1 := HC.out; have h2 := HXK.out; have h3 := HYK.out; simp only [carry, h1, h2, h3]; first | rfl | go_num | (congr 1; omega), OK.set' k (addDig x y k) _ (by have h1 := HC.out; have h2 := HXK.out; have h3 := HYK.out; simp only [addDig, h1, h2, h3]; omega) (by omega) (fun j hj => by by_cases e1 : j = k; subst e1; simp; rw [if_neg e1]; by_cases e2 : j < k; rw [if_pos e2, if_pos (by omega)]; rw [if_neg e2, if_neg (by omega)]), BK.setCell (Nat.le_refl _) _⟩
            case measure => simp [intOf]; omega
      · have hkk : k = N + 1 := by omega
        subst hkk
        go_wp2
        go_ret
        exact ⟨rfl, ⟨fun j hj => by have := OK.cell j hj; simpa [hj] using this, OK.free, OK.lo, OK.hi⟩, BK⟩
  · have hN' : N = n := by omega
    clear hN
    subst hN'
    have x9 : ∀ i, x i < 1000000000 := fun i => by rw [hx]; unfold pad; split; exact hd i; decide
    have y9 : ∀ i, y i < 1000000000 := fun i => by rw [hy]; unfold pad; split; exact he i; decide
    have HX : Hid (x = pad N d) := hx
    have HY : Hid (y = pad m e) := hy
    have X9 : Hid (∀ i, x i < 1000000000) := x9
    have Y9 : Hid (∀ i, y i < 1000000000) := y9
    clear hx hy x9 y9
    go_enter Tryd.func67, Tryd.ntmps67
    go_wp2_with (at_make; refine wpList_make_full _ rfl _ _ 22 rfl w.heap.size 23 i0 (.int .u32 0) 1 Tryd.underlying22 hi hz0 hz1 _ _ _ _ (N + 1) rfl rfl (by first | rfl | omega) (by first | rfl | omega) (by rw [hz2]; omega) (by unfold maxLen; omega) (Nat.le_refl _) ?_; intro w1 hown hgrow)
    have O1 : Own w1 w.heap.size w.heap.size (N + 1) (fun _ => 0) := own_made hown (Nat.le_refl _) (hown.lt _ rfl).2
    have B1 : Below w.heap.size w w1 := (Below.refl _ _).grown hgrow (Nat.le_refl _) (by simp)
    clear hown hgrow
    go_loopw [7, 8] (fun c i wr => ∃ k : Nat, k ≤ N + 1 ∧ i = .int .i64 k ∧ c = .int .u64 (carry x y k : Nat) ∧ Own wr w.heap.size w.heap.size (N + 1) (fun j => if j < k then addDig x y j else 0) ∧ Below w.heap.size w wr) (fun _ i _ => (N + 1) - (intOf i).toNat)
    case atStart => exact ⟨0, by omega, rfl, rfl, ⟨fun j hj => by simpa using O1.cell j hj, O1.free, O1.lo, O1.hi⟩, B1⟩
    case round =>
      obtain ⟨k, hk, rfl, rfl, OK, BK⟩ := hrel
      by_cases hkN : k ≤ N
      · have cl := carry_le x y X9.out Y9.out k
        have xk := X9.out k
        have yk := Y9.out k
        have f0 := OK.free k
        have g0 : wr.cell? ⟨w.heap.size, k, none⟩ = some (.int .u32 0) := by have := OK.cell k (by omega); simpa using this
        have ca := BK.cell (p := ⟨a, k, none⟩) la
        have cb' := BK.cell (p := ⟨b, k, none⟩) lb
        have i0 : (0 : Int) ≤ (k : Int) := by omega
        have i1 : (k : Int) < ((N + 1 : Nat) : Int) := by omega
        obtain ⟨C, hC⟩ : ∃ C, carry x y k = C := ⟨_, rfl⟩
        rw [hC] at cl ⊢
        have HC : Hid (carry x y k = C) := hC
        clear hC
        by_cases kn : k < N
        · have cd : wr.cell? ⟨a, k, none⟩ = some (.int .u32 (d k : Int)) := ca.trans (ha k kn)
          have dk := hd k
          have hxk : x k = d k := by rw [HX.out]; simp [pad, kn]
          by_cases km : k < m
          · have ce : wr.cell? ⟨b, k, none⟩ = some (.int .u32 (e k : Int)) := cb'.trans (hb k km)
            have ek := he k
            have hyk : y k = e k := by rw [HY.out]; simp [pad, km]
            have HXK : Hid (x k = d k) := hxk
            have HYK : Hid (y k = e k) := hyk
            clear hxk hyk xk yk ca cb'
            go_wp2
            go_roundw
            case rel => exact ⟨k + 1, by omega, by go_num, by have h1 := HC.out; have h2 := HXK.out; have h3 := HYK.out; simp only [carry, h1, h2, h3]; first | rfl | go_num | (congr 1; omega), OK.set' k (addDig x y k) _ (by have h1 := HC.out; have h2 := HXK.out; have h3 := HYK.out; simp only [addDig, h1, h2, h3]; omega) (by omega) (fun j hj => by by_cases e1 : j = k; subst e1; simp; rw [if_neg e1]; by_cases e2 : j < k; rw [if_pos e2, if_pos (by omega)]; rw [if_neg e2, if_neg (by omega)]), BK.setCell (Nat.le_refl _) _⟩
            case measure => simp [intOf]; omega
          · have hyk : y k = 0 := by rw [HY.out]; simp [pad, km]
            have HXK : Hid (x k = d k) := hxk
            have HYK : Hid (y k = 0) := hyk
            clear hxk hyk xk yk ca cb'
            go_wp2
            go_roundw
            case rel => exact ⟨k + 1, by omega, by go_num, by have h1 := HC.out; have h2 := HXK.out; have h3 := HYK.out; simp only [carry, h1, h2, h3]; first | rfl | go_num | (congr 1; omega), OK.set' k (addDig x y k) _ (by have h1 := HC.out; have h2 := HXK.out; have h3 := HYK.out; simp only [addDig, h1, h2, h3]; omega) (by omega) (fun j hj => by by_cases e1 : j = k; subst e1; simp; rw [if_neg e1]; by_cases e2 : j < k; rw [if_pos e2, if_pos (by omega)]; rw [if_neg e2, if_neg (by omega)]), BK.setCell (Nat.le_refl _) _⟩
            case measure => simp [intOf]; omega
        · have hxk : x k = 0 := by rw [HX.out]; simp [pad, kn]
          by_cases km : k < m
          · omega
          · have hyk : y k = 0 := by rw [HY.out]; simp [pad, km]
            have HXK : Hid (x k = 0) := hxk
            have HYK : Hid (y k = 0) := hyk
            clear hxk hyk xk yk ca cb'
            go_wp2
            go_roundw
            case rel => exact ⟨k + 1, by omega, by go_num, by have h1 := HC.out; have h2 := HXK.out; have h3 := HYK.out; simp only [carry, h1, h2, h3]; first | rfl | go_num | (congr 1; omega), OK.set' k (addDig x y k) _ (by have h1 := HC.out; have h2 := HXK.out; have h3 := HYK.out; simp only [addDig, h1, h2, h3]; omega) (by omega) (fun j hj => by by_cases e1 : j = k; subst e1; simp; rw [if_neg e1]; by_cases e2 : j < k; rw [if_pos e2, if_pos (by omega)]; rw [if_neg e2, if_neg (by omega)]), BK.setCell (Nat.le_refl _) _⟩
            case measure => simp [intOf]; omega
      · have hkk : k = N + 1 := by omega
        subst hkk
        go_wp2
        go_ret
        exact ⟨rfl, ⟨fun j hj => by have := OK.cell j hj; simpa [hj] using this, OK.free, OK.lo, OK.hi⟩, BK⟩
end Go.Proofs.YtoloenkcfpfgcaaDoor
namespace Go.Proofs.YtoloenkcfpfgcaaDoor
open Go.ChangeShapes Go.WideShapes Go.ChangeAt Go.RowKit

/-- What is borrowed from a place. -/
def borrow (x y : Nat → Nat) : Nat → Nat
  | 0 => 0
  | i + 1 => if x i < borrow x y i + y i then 1 else 0
def subDig (x y : Nat → Nat) (i : Nat) : Nat := x i + 1000000000 * borrow x y (i + 1) - borrow x y i - y i
theorem borrow_le (x y : Nat → Nat) : ∀ i, borrow x y i ≤ 1
  | 0 => by simp [borrow]
  | i + 1 => by unfold borrow; split <;> omega

set_option maxRecDepth 100000 in
set_option maxHeartbeats 2000000 in
theorem subD_any (n m a b ca cb : Nat) (d e : Nat → Nat) (w : World) (hmn : m ≤ n) (hn : n ≤ 1000000)
    (ha : Limbs w a n d) (hb : Limbs w b m e) (la : a < w.heap.size) (lb : b < w.heap.size) (hd : ∀ i, d i < 1000000000) (he : ∀ i, e i < 1000000000) (y : Nat → Nat) (hy : y = pad m e) :
    Calls Tryd.prog 69 #[.slice (some ⟨a, 0, none⟩) n ca, .slice (some ⟨b, 0, none⟩) m cb] w fun r w' => r = .returned (.slice (some ⟨w.heap.size, 0, none⟩) n n) ∧ Own w' w.heap.size w.heap.size n (subDig d y) ∧ Below w.heap.size w w' := by
  obtain ⟨i0, hi, hz0, hz1, hz2⟩ := info_parts info23
  have HY : Hid (y = pad m e) := hy
  clear hy
  go_enter Tryd.func69, Tryd.ntmps69
  go_wp2_with (at_make; refine wpList_make_full _ rfl _ _ 22 rfl w.heap.size 23 i0 (.int .u32 0) 1 Tryd.underlying22 hi hz0 hz1 _ _ _ _ n rfl rfl (by first | rfl | omega) (by first | rfl | omega) (by rw [hz2]; omega) (by unfold maxLen; omega) (Nat.le_refl _) ?_; intro w1 hown hgrow)
  have O1 : Own w1 w.heap.size w.heap.size n (fun _ => 0) := own_made hown (Nat.le_refl _) (hown.lt _ rfl).2
  have B1 : Below w.heap.size w w1 := (Below.refl _ _).grown hgrow (Nat.le_refl _) (by simp)
  clear hown hgrow
  go_loopw [6, 14] (fun c i wr => ∃ k : Nat, k ≤ n ∧ i = .int .i64 k ∧ c = .int .i64 (borrow d y k : Nat) ∧ Own wr w.heap.size w.heap.size n (fun j => if j < k then subDig d y j else 0) ∧ Below w.heap.size w wr) (fun _ i _ => n - (intOf i).toNat)
  case atStart => exact ⟨0, by omega, rfl, rfl, ⟨fun j hj => by simpa using O1.cell j hj, O1.free, O1.lo, O1.hi⟩, B1⟩
  case round =>
    obtain ⟨k, hk, rfl, rfl, OK, BK⟩ := hrel
    by_cases hkN : k < n
    · have cl := borrow_le d y k
      have f0 := OK.free k
      have g0 : wr.cell? ⟨w.heap.size, k, none⟩ = some (.int .u32 0) := by have := OK.cell k (by omega); simpa using this
      have ca := BK.cell (p := ⟨a, k, none⟩) la
      have cb' := BK.cell (p := ⟨b, k, none⟩) lb
      have i0 : (0 : Int) ≤ (k : Int) := by omega
      have i1 : (k : Int) < (n : Int) := by omega
      have cd : wr.cell? ⟨a, k, none⟩ = some (.int .u32 (d k : Int)) := ca.trans (ha k hkN)
      have dk := hd k
      obtain ⟨C, hC⟩ : ∃ C, borrow d y k = C := ⟨_, rfl⟩
      rw [hC] at cl ⊢
      have HC : Hid (borrow d y k = C) := hC
      clear hC
      by_cases km : k < m
      · have ce : wr.cell? ⟨b, k, none⟩ = some (.int .u32 (e k : Int)) := cb'.trans (hb k km)
        have ek := he k
        have HYK : Hid (y k = e k) := by show y k = e k; rw [HY.out]; simp [pad, km]
        clear ca cb'
        by_cases lt : (d k : Int) - C - e k < 0
        · have HB : Hid (borrow d y (k + 1) = 1) := by show borrow d y (k + 1) = 1; have h1 := HC.out; have h2 := HYK.out; simp only [borrow, h1, h2]; rw [if_pos (by omega)]
          go_wp2
          go_roundw
          case rel => exact ⟨k + 1, by omega, by go_num, by rw [HB.out]; rfl, OK.set' k (subDig d y k) _ (by have h1 := HC.out; have h2 := HYK.out; have h3 := HB.out; simp only [subDig, h1, h2, h3]; omega) (by omega) (fun j hj => by by_cases e1 : j = k; subst e1; simp; rw [if_neg e1]; by_cases e2 : j < k; rw [if_pos e2, if_pos (by omega)]; rw [if_neg e2, if_neg (by omega)]), BK.setCell (Nat.le_refl _) _⟩
          case measure => simp [intOf]; omega
        · have HB : Hid (borrow d y (k + 1) = 0) := by show borrow d y (k + 1) = 0; have h1 := HC.out; have h2 := HYK.out; simp only [borrow, h1, h2]; rw [if_neg (by omega)]
          go_wp2
          go_roundw
          case rel => exact ⟨k + 1, by omega, by go_num, by rw [HB.out]; rfl, OK.set' k (subDig d y k) _ (by have h1 := HC.out; have h2 := HYK.out; have h3 := HB.out; simp only [subDig, h1, h2, h3]; omega) (by omega) (fun j hj => by by_cases e1 : j = k; subst e1; simp; rw [if_neg e1]; by_cases e2 : j < k; rw [if_pos e2, if_pos (by omega)]; rw [if_neg e2, if_neg (by omega)]), BK.setCell (Nat.le_refl _) _⟩
          case measure => simp [intOf]; omega
      · have HYK : Hid (y k = 0) := by show y k = 0; rw [HY.out]; simp [pad, km]
        clear ca cb'
        by_cases lt : (d k : Int) - C < 0
        · have HB : Hid (borrow d y (k + 1) = 1) := by show borrow d y (k + 1) = 1; have h1 := HC.out; have h2 := HYK.out; simp only [borrow, h1, h2]; rw [if_pos (by omega)]
          go_wp2
          go_roundw
          case rel => exact ⟨k + 1, by omega, by go_num, by rw [HB.out]; rfl, OK.set' k (subDig d y k) _ (by have h1 := HC.out; have h2 := HYK.out; have h3 := HB.out; simp only [subDig, h1, h2, h3]; omega) (by omega) (fun j hj => by by_cases e1 : j = k; subst e1; simp; rw [if_neg e1]; by_cases e2 : j < k; rw [if_pos e2, if_pos (by omega)]; rw [if_neg e2, if_neg (by omega)]), BK.setCell (Nat.le_refl _) _⟩
          case measure => simp [intOf]; omega
        · have HB : Hid (borrow d y (k + 1) = 0) := by show borrow d y (k + 1) = 0; have h1 := HC.out; have h2 := HYK.out; simp only [borrow, h1, h2]; rw [if_neg (by omega)]
          go_wp2
          go_roundw
          case rel => exact ⟨k + 1, by omega, by go_num, by rw [HB.out]; rfl, OK.set' k (subDig d y k) _ (by have h1 := HC.out; have h2 := HYK.out; have h3 := HB.out; simp only [subDig, h1, h2, h3]; omega) (by omega) (fun j hj => by by_cases e1 : j = k; subst e1; simp; rw [if_neg e1]; by_cases e2 : j < k; rw [if_pos e2, if_pos (by omega)]; rw [if_neg e2, if_neg (by omega)]), BK.setCell (Nat.le_refl _) _⟩
          case measure => simp [intOf]; omega
    · have hkk : k = n := by omega
      subst hkk
      go_wp2
      go_ret
      exact ⟨rfl, ⟨fun j hj => by have := OK.cell j hj; simpa [hj] using this, OK.free, OK.lo, OK.hi⟩, BK⟩
end Go.Proofs.YtoloenkcfpfgcaaDoor
namespace Go.Proofs.YtoloenkcfpfgcaaDoor
open Go.ChangeShapes Go.WideShapes Go.ChangeAt Go.RowKit

/-- What is carried into a place. -/
def mcarry (d : Nat → Nat) (M : Nat) : Nat → Nat
  | 0 => 0
  | i + 1 => (d i * M + mcarry d M i) / 1000000000
def mulDig (n : Nat) (d : Nat → Nat) (M i : Nat) : Nat := if i < n then (d i * M + mcarry d M i) % 1000000000 else mcarry d M n
theorem mcarry_le (d : Nat → Nat) (M : Nat) (hd : ∀ i, d i < 1000000000) (hM : M ≤ 1000000000) : ∀ i, mcarry d M i ≤ 999999999
  | 0 => by simp [mcarry]
  | i + 1 => by
    have h := mcarry_le d M hd hM i
    have a := hd i
    have p : d i * M ≤ 999999999 * 1000000000 := Nat.mul_le_mul (by omega) hM
    unfold mcarry
    omega
/-- How many limbs are left when noughts at the end are left off. -/
def trim (f : Nat → Nat) : Nat → Nat
  | 0 => 0
  | k + 1 => if f k = 0 then trim f k else k + 1

set_option maxRecDepth 100000 in
set_option maxHeartbeats 2000000 in
theorem mulD_any (n a ca M : Nat) (d : Nat → Nat) (w : World) (hn : n ≤ 1000000) (ha : Limbs w a n d) (la : a < w.heap.size) (hd : ∀ i, d i < 1000000000) (hM : M ≤ 1000000000) :
    Calls Tryd.prog 87 #[.slice (some ⟨a, 0, none⟩) n ca, .int .u64 M] w fun r w' => r = .returned (.slice (some ⟨w.heap.size, 0, none⟩) (trim (mulDig n d M) (n + 1)) (n + 1)) ∧ Own w' w.heap.size w.heap.size (n + 1) (mulDig n d M) ∧ Below w.heap.size w w' := by
  obtain ⟨i0, hi, hz0, hz1, hz2⟩ := info_parts info23
  go_enter Tryd.func87, Tryd.ntmps87
  go_wp2_with (at_make; refine wpList_make_full _ rfl _ _ 22 rfl w.heap.size 23 i0 (.int .u32 0) 1 Tryd.underlying22 hi hz0 hz1 _ _ _ _ (n + 1) rfl rfl (by first | rfl | omega) (by first | rfl | omega) (by rw [hz2]; omega) (by unfold maxLen; omega) (Nat.le_refl _) ?_; intro w1 hown hgrow)
  have O1 : Own w1 w.heap.size w.heap.size (n + 1) (fun _ => 0) := own_made hown (Nat.le_refl _) (hown.lt _ rfl).2
  have B1 : Below w.heap.size w w1 := (Below.refl _ _).grown hgrow (Nat.le_refl _) (by simp)
  clear hown hgrow
  go_loopw [6, 16] (fun c i wr => ∃ k : Nat, k ≤ n ∧ i = .int .i64 k ∧ c = .int .u64 (mcarry d M k : Nat) ∧ Own wr w.heap.size w.heap.size (n + 1) (fun j => if j < k then mulDig n d M j else 0) ∧ Below w.heap.size w wr) (fun _ i _ => n - (intOf i).toNat)
  case atStart => exact ⟨0, by omega, rfl, rfl, ⟨fun j hj => by simpa using O1.cell j hj, O1.free, O1.lo, O1.hi⟩, B1⟩
  case round =>
    obtain ⟨k, hk, rfl, rfl, OK, BK⟩ := hrel
    have cl := mcarry_le d M hd hM k
    obtain ⟨C, hC⟩ : ∃ C, mcarry d M k = C := ⟨_, rfl⟩
    rw [hC] at cl ⊢
    have HC : Hid (mcarry d M k = C) := hC
    clear hC
    by_cases hkN : k < n
    · have f0 := OK.free k
      have g0 : wr.cell? ⟨w.heap.size, k, none⟩ = some (.int .u32 0) := by have := OK.cell k (by omega); simpa using this
      have i0 : (0 : Int) ≤ (k : Int) := by omega
      have i1 : (k : Int) < ((n + 1 : Nat) : Int) := by omega
      have i2 : (k : Int) < (n : Int) := by omega
      have cd : wr.cell? ⟨a, k, none⟩ = some (.int .u32 (d k : Int)) := (BK.cell (p := ⟨a, k, none⟩) la).trans (ha k hkN)
      have dk := hd k
      obtain ⟨P, hP⟩ : ∃ P, d k * M = P := ⟨_, rfl⟩
      have pb : P ≤ 999999999000000000 := by rw [← hP]; exact Nat.mul_le_mul (by omega : d k ≤ 999999999) hM
      have HP : Hid (d k * M = P) := hP
      have hPI : (d k : Int) * (M : Int) = (P : Int) := by rw [← hP]; push_cast; rfl
      clear hP
      go_wp2
      go_roundw
      case rel => exact ⟨k + 1, by omega, by go_num, by have h1 := HC.out; have h2 := HP.out; simp only [mcarry, h1, h2]; first | rfl | go_num, OK.set' k (mulDig n d M k) _ (by have h1 := HC.out; have h2 := HP.out; simp only [mulDig, h1, h2, hkN, if_true]; omega) (by omega) (fun j hj => by by_cases e1 : j = k; subst e1; simp; rw [if_neg e1]; by_cases e2 : j < k; rw [if_pos e2, if_pos (by omega)]; rw [if_neg e2, if_neg (by omega)]), BK.setCell (Nat.le_refl _) _⟩
      case measure => simp [intOf]; omega
    · have hkk : k = n := by omega
      subst hkk
      have f0 := OK.free k
      have g0 : wr.cell? ⟨w.heap.size, k, none⟩ = some (.int .u32 0) := by have := OK.cell k (by omega); simpa using this
      have i0 : (0 : Int) ≤ (k : Int) := by omega
      have i1 : (k : Int) < ((k + 1 : Nat) : Int) := by omega
      go_wp2
      obtain ⟨V, hV⟩ : ∃ V, V = wr.setCell ⟨w.heap.size, k, none⟩ (.int .u32 (C : Int)) := ⟨_, rfl⟩
      have OV : Own V w.heap.size w.heap.size (k + 1) (mulDig k d M) := by
        rw [hV]
        exact OK.set' k C _ rfl (by omega) (fun j hj => by
          by_cases e1 : j = k
          · subst e1; rw [if_pos rfl]; unfold mulDig; rw [if_neg (by omega)]; exact HC.out
          · rw [if_neg e1, if_pos (by omega)])
      have BV : Below w.heap.size w V := by rw [hV]; exact BK.setCell (Nat.le_refl _) _
      rw [← hV]
      clear hV g0 f0 i0 i1
      obtain ⟨f, hf⟩ : ∃ f, f = mulDig k d M := ⟨_, rfl⟩
      rw [← hf] at OV
      have HF : Hid (f = mulDig k d M) := hf
      clear hf
      go_loop [9] (fun i => ∃ t : Nat, t ≤ k + 1 ∧ i = .int .i64 t ∧ Hid (trim f (k + 1) = trim f t)) (fun i => (intOf i).toNat)
      case atStart => exact ⟨k + 1, Nat.le_refl _, by go_num, rfl⟩
      case round =>
        obtain ⟨t, ht, rfl, HT⟩ := hrel
        rcases t with _ | t
        · have hr : trim f (k + 1) = 0 := HT.out
          have HR : Hid (trim f (k + 1) = 0) := hr
          clear hr
          go_wp2
          go_ret
          exact ⟨by rw [← HF.out, HR.out]; rfl, by rw [← HF.out]; exact OV, BV⟩
        · have c1 := OV.cell t (by omega)
          have i0 : (0 : Int) ≤ (t : Int) := by omega
          have i1 : (t : Int) < ((k + 1 : Nat) : Int) := by omega
          by_cases h0 : f t = 0
          · have HN : Hid (trim f (k + 1) = trim f t) := by show trim f (k + 1) = trim f t; rw [HT.out]; simp [trim, h0]
            rw [h0] at c1
            go_wp2
            go_round
            case rel => exact ⟨t, by omega, by first | rfl | go_num, HN⟩
            case measure => simp [intOf]
          · have HN : Hid (trim f (k + 1) = t + 1) := by show trim f (k + 1) = t + 1; rw [HT.out]; simp [trim, h0]
            have h0' : ((f t : Int) == 0) = false := by simp; omega
            have h0'' : ¬ (f t : Int) = 0 := by omega
            go_wp2
            go_ret
            exact ⟨by rw [← HF.out, HN.out]; rfl, by rw [← HF.out]; exact OV, BV⟩
end Go.Proofs.YtoloenkcfpfgcaaDoor
