/- Contract of the model's sum of limbs (l1AddD): digit by digit with what is carried; conditions: both rows stand in memory, at most a million limbs each, each below 10^9. -/
import Derived.Test.YtamoakodlmjbiaaDoorLimbs
namespace Go.Proofs.YtamoakodlmjbiaaDoor
open Go.ChangeShapes Go.WideShapes Go.ChangeAt Go.RowKit

/-- A row of limbs that the call itself made: block o, n limbs, each may be written. -/
structure Own (w : World) (B o n : Nat) (f : Nat → Nat) : Prop where
  cell : Limbs w o n f
  free : ∀ i, w.frozen? ⟨o, i, none⟩ = false
  lo : B ≤ o
  hi : o < w.heap.size
theorem Own.set {w : World} {B o n : Nat} {f g : Nat → Nat} (h : Own w B o n f) (j x : Nat) (hj : j < n) (hg : ∀ i, i < n → g i = if i = j then x else f i) : Own (w.setCell ⟨o, j, none⟩ (.int .u32 (x : Int))) B o n g := by
  refine ⟨fun i hi => ?_, fun i => ?_, h.lo, by simpa using h.hi⟩
  · rw [hg i hi]
    by_cases e : i = j
    · subst e
      rw [if_pos rfl]
      exact World.cell?_setCell_same' w _ _ (by rw [h.cell i hj]; rfl)
    · rw [if_neg e]
      have hne : (⟨o, j, none⟩ : Addr) ≠ ⟨o, i, none⟩ := by
        intro k; injection k with _ k2; exact e k2.symm
      rw [World.cell?_setCell_other (h := hne)]
      exact h.cell i hi
  · simp [h.free i]
theorem Own.set' {w : World} {B o n : Nat} {f g : Nat → Nat} (h : Own w B o n f) (j x : Nat) (v : Int) (hv : v = (x : Int)) (hj : j < n) (hg : ∀ i, i < n → g i = if i = j then x else f i) : Own (w.setCell ⟨o, j, none⟩ (.int .u32 v)) B o n g := by
  subst hv; exact h.set j x hj hg
theorem own_made {w : World} {B n : Nat} {w' : World} (h : w'.ownsRow B 23 1 (.slice (some ⟨w.heap.size, 0, none⟩) n n) n (madeCells #[.int .u32 0] (n * 1)).toList) (hb : B ≤ w.heap.size) (hs : w.heap.size < w'.heap.size) : Own w' B w.heap.size n (fun _ => 0) := by
  refine ⟨fun i hi => ?_, fun i => h.frozenAt i, hb, hs⟩
  rw [h.cellAt i (by omega)]
  simp [madeCells, hi, Nat.mod_one]

/-- What stands at a place of a row of n limbs: 0 beyond its end. -/
def pad (n : Nat) (d : Nat → Nat) (i : Nat) : Nat := if i < n then d i else 0
/-- What is carried into a place. -/
def carry (x y : Nat → Nat) : Nat → Nat
  | 0 => 0
  | i + 1 => (carry x y i + x i + y i) / 1000000000
def addDig (x y : Nat → Nat) (i : Nat) : Nat := (carry x y i + x i + y i) % 1000000000
theorem carry_le (x y : Nat → Nat) (hx : ∀ i, x i < 1000000000) (hy : ∀ i, y i < 1000000000) : ∀ i, carry x y i ≤ 1
  | 0 => by simp [carry]
  | i + 1 => by
    have h := carry_le x y hx hy i
    have a := hx i
    have b := hy i
    unfold carry
    omega
theorem info23 : (Tryd.prog.info? 23).map (fun i => (i.zero, i.size, i.bytes)) = some (some (.int .u32 0), 1, 4) := by kernel_rfl

set_option maxRecDepth 100000 in
set_option maxHeartbeats 2000000 in
theorem addD_any (n m a b ca cb N : Nat) (sa sb : Value) (d e : Nat → Nat) (w : World) (hsa : sa = .slice (some ⟨a, 0, none⟩) n ca) (hsb : sb = .slice (some ⟨b, 0, none⟩) m cb) (hN : N = max n m) (hn : n ≤ 1000000) (hm : m ≤ 1000000)
    (ha : Limbs w a n d) (hb : Limbs w b m e) (la : a < w.heap.size) (lb : b < w.heap.size) (hd : ∀ i, d i < 1000000000) (he : ∀ i, e i < 1000000000) (x y : Nat → Nat) (hx : x = pad n d) (hy : y = pad m e) :
    Calls Tryd.prog 104 #[sa, sb] w fun r w' => r = .returned (.slice (some ⟨w.heap.size, 0, none⟩) (N + 1) (N + 1)) ∧ Own w' w.heap.size w.heap.size (N + 1) (addDig x y) ∧ Below w.heap.size w w' := by
  subst hsa hsb
  obtain ⟨i0, hi, hz0, hz1, hz2⟩ := info_parts info23
  by_cases hnm : n < m
  · have hN' : N = m := by omega
    clear hN
    subst hN'
    have x9 : ∀ i, x i < 1000000000 := fun i => by rw [hx]; unfold pad; split; exact hd i; decide
    have y9 : ∀ i, y i < 1000000000 := fun i => by rw [hy]; unfold pad; split; exact he i; decide
    have HX : Hid (x = pad n d) := hx
    have HY : Hid (y = pad N e) := hy
    have X9 : Hid (∀ i, x i < 1000000000) := x9
    have Y9 : Hid (∀ i, y i < 1000000000) := y9
    clear hx hy x9 y9
    go_enter Tryd.func104, Tryd.ntmps104
    go_wp2_with (at_make; refine wpList_make_full _ rfl _ _ 55 rfl w.heap.size 23 i0 (.int .u32 0) 1 Tryd.underlying55 hi hz0 hz1 _ _ _ _ (N + 1) rfl rfl (by first | rfl | omega) (by first | rfl | omega) (by rw [hz2]; omega) (by unfold maxLen; omega) (Nat.le_refl _) ?_; intro w1 hown hgrow)
    have O1 : Own w1 w.heap.size w.heap.size (N + 1) (fun _ => 0) := own_made hown (Nat.le_refl _) (hown.lt _ rfl).2
    have B1 : Below w.heap.size w w1 := (Below.refl _ _).grown hgrow (Nat.le_refl _) (by simp)
    clear hown hgrow
    go_loopw [7, 8] (fun c i wr => ∃ k : Nat, k ≤ N + 1 ∧ i = .int .i64 k ∧ c = .int .u64 (carry x y k : Nat) ∧ Own wr w.heap.size w.heap.size (N + 1) (fun j => if j < k then addDig x y j else 0) ∧ Below w.heap.size w wr) (fun _ i _ => (N + 1) - (intOf i).toNat)
    case atStart => exact ⟨0, by omega, rfl, rfl, ⟨fun j hj => by simpa using O1.cell j hj, O1.free, O1.lo, O1.hi⟩, B1⟩
    case round =>
      obtain ⟨k, hk, rfl, rfl, OK, BK⟩ := hrel
      by_cases hkN : k ≤ N
      · have cl := carry_le x y X9.out Y9.out k
        have xk := X9.out k
        have yk := Y9.out k
        have f0 := OK.free k
        have g0 : wr.cell? ⟨w.heap.size, k, none⟩ = some (.int .u32 0) := by have := OK.cell k (by omega); simpa using this
        have ca := BK.cell (p := ⟨a, k, none⟩) la
        have cb' := BK.cell (p := ⟨b, k, none⟩) lb
        have i0 : (0 : Int) ≤ (k : Int) := by omega
        have i1 : (k : Int) < ((N + 1 : Nat) : Int) := by omega
        obtain ⟨C, hC⟩ : ∃ C, carry x y k = C := ⟨_, rfl⟩
        rw [hC] at cl ⊢
        have HC : Hid (carry x y k = C) := hC
        clear hC
        by_cases kn : k < n
        · have cd : wr.cell? ⟨a, k, none⟩ = some (.int .u32 (d k : Int)) := ca.trans (ha k kn)
          have dk := hd k
          have hxk : x k = d k := by rw [HX.out]; simp [pad, kn]
          by_cases km : k < N
          · have ce : wr.cell? ⟨b, k, none⟩ = some (.int .u32 (e k : Int)) := cb'.trans (hb k km)
            have ek := he k
            have hyk : y k = e k := by rw [HY.out]; simp [pad, km]
            have HXK : Hid (x k = d k) := hxk
            have HYK : Hid (y k = e k) := hyk
            clear hxk hyk xk yk ca cb'
            go_wp2
            go_roundw
            case rel => exact ⟨k + 1, by omega, by go_num, by have h1 := HC.out; have h2 := HXK.out; have h3 := HYK.out; simp only [carry, h1, h2, h3]; first | rfl | go_num | (congr 1; omega), OK.set' k (addDig x y k) _ (by have h1 := HC.out; have h2 := HXK.out; have h3 := HYK.out; simp only [addDig, h1, h2, h3]; omega) (by omega) (fun j hj => by by_cases e1 : j = k; subst e1; simp; rw [if_neg e1]; by_cases e2 : j < k; rw [if_pos e2, if_pos (by omega)]; rw [if_neg e2, if_neg (by omega)]), BK.setCell (Nat.le_refl _) _⟩
            case measure => simp [intOf]; omega
          · omega
        · have hxk : x k = 0 := by rw [HX.out]; simp [pad, kn]
          by_cases km : k < N
          · have ce : wr.cell? ⟨b, k, none⟩ = some (.int .u32 (e k : Int)) := cb'.trans (hb k km)
            have ek := he k
            have hyk : y k = e k := by rw [HY.out]; simp [pad, km]
            have HXK : Hid (x k = 0) := hxk
            have HYK : Hid (y k = e k) := hyk
            clear hxk hyk xk yk ca cb'
            go_wp2
            go_roundw
            case rel => exact ⟨k + 1, by omega, by go_num, by have h1 := HC.out; have h2 := HXK.out; have h3 := HYK.out; simp only [carry, h1, h2, h3]; first | rfl | go_num | (congr 1; omega), OK.set' k (addDig x y k) _ (by have h1 := HC.out; have h2 := HXK.out; have h3 := HYK.out; simp only [addDig, h1, h2, h3]; omega) (by omega) (fun j hj => by by_cases e1 : j = k; subst e1; simp; rw [if_neg e1]; by_cases e2 : j < k; rw [if_pos e2, if_pos (by omega)]; rw [if_neg e2, if_neg (by omega)]), BK.setCell (Nat.le_refl _) _⟩
            case measure => simp [intOf]; omega
          · have hyk : y k = 0 := by rw [HY.out]; simp [pad, km]
            have HXK : Hid (x k = 0) := hxk
            have HYK : Hid (y k = 0) := hyk
            clear hxk hyk xk yk ca cb'
            go_wp2
            go_roundw
            case rel => exact ⟨k + 1, by omega, by go_num, by have h1 := HC.out; have h2 := HXK.out; have h3 := HYK.out; simp only [carry, h1, h2, h3]; first | rfl | go_num | (congr 1; omega), OK.set' k (addDig x y k) _ (by have h1 := HC.out; have h2 := HXK.out; have h3 := HYK.out; simp only [addDig, h1, h2, h3]; omega) (by omega) (fun j hj => by by_cases e1 : j = k; subst e1; simp; rw [if_neg e1]; by_cases e2 : j < k; rw [if_pos e2, if_pos (by omega)]; rw [if_neg e2, if_neg (by omega)]), BK.setCell (Nat.le_refl _) _⟩
            case measure => simp [intOf]; omega
      · have hkk : k = N + 1 := by omega
        subst hkk
        go_wp2
        go_ret
        exact ⟨rfl, ⟨fun j hj => by have := OK.cell j hj; simpa [hj] using this, OK.free, OK.lo, OK.hi⟩, BK⟩
  · have hN' : N = n := by omega
    clear hN
    subst hN'
    have x9 : ∀ i, x i < 1000000000 := fun i => by rw [hx]; unfold pad; split; exact hd i; decide
    have y9 : ∀ i, y i < 1000000000 := fun i => by rw [hy]; unfold pad; split; exact he i; decide
    have HX : Hid (x = pad N d) := hx
    have HY : Hid (y = pad m e) := hy
    have X9 : Hid (∀ i, x i < 1000000000) := x9
    have Y9 : Hid (∀ i, y i < 1000000000) := y9
    clear hx hy x9 y9
    go_enter Tryd.func104, Tryd.ntmps104
    go_wp2_with (at_make; refine wpList_make_full _ rfl _ _ 55 rfl w.heap.size 23 i0 (.int .u32 0) 1 Tryd.underlying55 hi hz0 hz1 _ _ _ _ (N + 1) rfl rfl (by first | rfl | omega) (by first | rfl | omega) (by rw [hz2]; omega) (by unfold maxLen; omega) (Nat.le_refl _) ?_; intro w1 hown hgrow)
    have O1 : Own w1 w.heap.size w.heap.size (N + 1) (fun _ => 0) := own_made hown (Nat.le_refl _) (hown.lt _ rfl).2
    have B1 : Below w.heap.size w w1 := (Below.refl _ _).grown hgrow (Nat.le_refl _) (by simp)
    clear hown hgrow
    go_loopw [7, 8] (fun c i wr => ∃ k : Nat, k ≤ N + 1 ∧ i = .int .i64 k ∧ c = .int .u64 (carry x y k : Nat) ∧ Own wr w.heap.size w.heap.size (N + 1) (fun j => if j < k then addDig x y j else 0) ∧ Below w.heap.size w wr) (fun _ i _ => (N + 1) - (intOf i).toNat)
    case atStart => exact ⟨0, by omega, rfl, rfl, ⟨fun j hj => by simpa using O1.cell j hj, O1.free, O1.lo, O1.hi⟩, B1⟩
    case round =>
      obtain ⟨k, hk, rfl, rfl, OK, BK⟩ := hrel
      by_cases hkN : k ≤ N
      · have cl := carry_le x y X9.out Y9.out k
        have xk := X9.out k
        have yk := Y9.out k
        have f0 := OK.free k
        have g0 : wr.cell? ⟨w.heap.size, k, none⟩ = some (.int .u32 0) := by have := OK.cell k (by omega); simpa using this
        have ca := BK.cell (p := ⟨a, k, none⟩) la
        have cb' := BK.cell (p := ⟨b, k, none⟩) lb
        have i0 : (0 : Int) ≤ (k : Int) := by omega
        have i1 : (k : Int) < ((N + 1 : Nat) : Int) := by omega
        obtain ⟨C, hC⟩ : ∃ C, carry x y k = C := ⟨_, rfl⟩
        rw [hC] at cl ⊢
        have HC : Hid (carry x y k = C) := hC
        clear hC
        by_cases kn : k < N
        · have cd : wr.cell? ⟨a, k, none⟩ = some (.int .u32 (d k : Int)) := ca.trans (ha k kn)
          have dk := hd k
          have hxk : x k = d k := by rw [HX.out]; simp [pad, kn]
          by_cases km : k < m
          · have ce : wr.cell? ⟨b, k, none⟩ = some (.int .u32 (e k : Int)) := cb'.trans (hb k km)
            have ek := he k
            have hyk : y k = e k := by rw [HY.out]; simp [pad, km]
            have HXK : Hid (x k = d k) := hxk
            have HYK : Hid (y k = e k) := hyk
            clear hxk hyk xk yk ca cb'
            go_wp2
            go_roundw
            case rel => exact ⟨k + 1, by omega, by go_num, by have h1 := HC.out; have h2 := HXK.out; have h3 := HYK.out; simp only [carry, h1, h2, h3]; first | rfl | go_num | (congr 1; omega), OK.set' k (addDig x y k) _ (by have h1 := HC.out; have h2 := HXK.out; have h3 := HYK.out; simp only [addDig, h1, h2, h3]; omega) (by omega) (fun j hj => by by_cases e1 : j = k; subst e1; simp; rw [if_neg e1]; by_cases e2 : j < k; rw [if_pos e2, if_pos (by omega)]; rw [if_neg e2, if_neg (by omega)]), BK.setCell (Nat.le_refl _) _⟩
            case measure => simp [intOf]; omega
          · have hyk : y k = 0 := by rw [HY.out]; simp [pad, km]
            have HXK : Hid (x k = d k) := hxk
            have HYK : Hid (y k = 0) := hyk
            clear hxk hyk xk yk ca cb'
            go_wp2
            go_roundw
            case rel => exact ⟨k + 1, by omega, by go_num, by have h1 := HC.out; have h2 := HXK.out; have h3 := HYK.out; simp only [carry, h1, h2, h3]; first | rfl | go_num | (congr 1; omega), OK.set' k (addDig x y k) _ (by have h1 := HC.out; have h2 := HXK.out; have h3 := HYK.out; simp only [addDig, h1, h2, h3]; omega) (by omega) (fun j hj => by by_cases e1 : j = k; subst e1; simp; rw [if_neg e1]; by_cases e2 : j < k; rw [if_pos e2, if_pos (by omega)]; rw [if_neg e2, if_neg (by omega)]), BK.setCell (Nat.le_refl _) _⟩
            case measure => simp [intOf]; omega
        · have hxk : x k = 0 := by rw [HX.out]; simp [pad, kn]
          by_cases km : k < m
          · omega
          · have hyk : y k = 0 := by rw [HY.out]; simp [pad, km]
            have HXK : Hid (x k = 0) := hxk
            have HYK : Hid (y k = 0) := hyk
            clear hxk hyk xk yk ca cb'
            go_wp2
            go_roundw
            case rel => exact ⟨k + 1, by omega, by go_num, by have h1 := HC.out; have h2 := HXK.out; have h3 := HYK.out; simp only [carry, h1, h2, h3]; first | rfl | go_num | (congr 1; omega), OK.set' k (addDig x y k) _ (by have h1 := HC.out; have h2 := HXK.out; have h3 := HYK.out; simp only [addDig, h1, h2, h3]; omega) (by omega) (fun j hj => by by_cases e1 : j = k; subst e1; simp; rw [if_neg e1]; by_cases e2 : j < k; rw [if_pos e2, if_pos (by omega)]; rw [if_neg e2, if_neg (by omega)]), BK.setCell (Nat.le_refl _) _⟩
            case measure => simp [intOf]; omega
      · have hkk : k = N + 1 := by omega
        subst hkk
        go_wp2
        go_ret
        exact ⟨rfl, ⟨fun j hj => by have := OK.cell j hj; simpa [hj] using this, OK.free, OK.lo, OK.hi⟩, BK⟩
end Go.Proofs.YtamoakodlmjbiaaDoor
