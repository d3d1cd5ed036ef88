/- Contracts of ShuffleLanes, of the program and of its model; conditions: words and numbers stand in memory. -/
import Derived.Test.YtlcfpcapefeajaaPrefix
namespace Go.Proofs.Ytlcfpcapefeajaa
open Go.ChangeShapes Go.WideShapes Go.ChangeAt Go.RowKit
/-- What lane i has behind a shuffle. -/
def sh (d q : Nat → Int) (m : Int) (n i : Nat) : Int := if onM m i then (if 0 ≤ q i ∧ q i < (n : Int) ∧ onM m (q i).toNat = true then d (q i).toNat else 0) else d i
theorem sh_off (d q : Nat → Int) (m : Int) (n i : Nat) (h : onM m i = false) : sh d q m n i = d i := by simp [sh, h]
theorem sh_no (d q : Nat → Int) (m : Int) (n i : Nat) (h : onM m i = true) (hq : ¬ (0 ≤ q i ∧ q i < (n : Int))) : sh d q m n i = 0 := by
  unfold sh; rw [if_pos h, if_neg (fun k => hq ⟨k.1, k.2.1⟩)]
theorem sh_un (d q : Nat → Int) (m : Int) (n i x : Nat) (h : onM m i = true) (hq : q i = (x : Int)) (ho : onM m x = false) : sh d q m n i = 0 := by
  unfold sh; rw [if_pos h, if_neg]; intro k; rw [hq] at k; simp [ho] at k
theorem sh_on (d q : Nat → Int) (m : Int) (n i x : Nat) (h : onM m i = true) (hq : q i = (x : Int)) (hx : x < n) (ho : onM m x = true) : sh d q m n i = d x := by
  unfold sh; rw [if_pos h, if_pos]
  · rw [hq]; simp
  · rw [hq]; exact ⟨by omega, by omega, by simpa using ho⟩
set_option maxRecDepth 100000 in
set_option maxHeartbeats 4000000 in
theorem shu18 {n a b : Nat} {d q : Nat → Int} {w : World} (O : Own w a n (fun i => .int .u32 (d i))) (F : Own w b n (fun i => .int .i64 (q i))) (ca cb : Nat) (m : Int) (hg : goodM n m = true) :
    Calls Try.prog 18 #[.slice (some ⟨a, 0, none⟩) n ca, .slice (some ⟨b, 0, none⟩) n cb, .int .i64 m] w fun r w' => ∃ g cap, r = .returned (.tuple #[.slice (some ⟨g, 0, none⟩) n cap, .bool true]) ∧ w.heap.size ≤ g ∧ Own w' g n (fun i => .int .u32 (sh d q m n i)) ∧ Below w.heap.size w w' := by
  have hn := good16 hg
  obtain ⟨i0, hi, hz0, hz1, hz2⟩ := info_parts info39
  go_enter Try.func18, Try.ntmps18
  go_wp2_with (first | (go_at_call 10; refine (gm10 _ _ _).mono ?_; rintro e w1 ⟨rfl, hw1⟩; subst w1; rw [hg]) | (go_at_call 31; refine (lanes31 m w).mono ?_; rintro e w1 ⟨rfl, Bw⟩) | (at_make; refine wpList_make_full (w1.alloc (.cells (lanesV m) 48)) rfl _ _ 28 rfl ((w1.alloc (.cells (lanesV m) 48)).heap.size) 39 i0 (.int .u32 0) 1 Try.underlying28 hi hz0 hz1 _ _ _ _ n rfl rfl (by first | rfl | omega) (by first | rfl | omega) (by rw [hz2]; omega) (by unfold maxLen; omega) (Nat.le_refl _) ?_; intro w2 hown hgrow))
  have OB := own_alloc w1 (lanesV m) 48 16 (fun j => .bool (onM m j)) (lanesV_get m)
  have BB : Below w1.heap.size w1 (w1.alloc (.cells (lanesV m) 48)) := (Below.refl _ _).alloc (Nat.le_refl _) _
  have hown' := hown
  have hgrow' := hgrow
  have hs : (w1.alloc (.cells (lanesV m) 48)).heap.size = w1.heap.size + 1 := World.size_alloc _ _
  generalize w1.alloc (.cells (lanesV m) 48) = W at OB BB hown' hgrow' hs
  have O1 : Own w2 (w1.heap.size + 1) n (fun _ => .int .u32 0) := by rw [← hs]; exact own_made hown'
  have B1 : Below (w1.heap.size + 1) W w2 := by rw [← hs]; exact (Below.refl _ _).grown hgrow' (Nat.le_refl _) (by simp)
  have BW : Below w.heap.size w W := Bw.trans (BB.mono Bw.size)
  have la := O.hi
  have lb := F.hi
  have HC : Hid (∀ i, i < n → W.cell? ⟨a, i, none⟩ = some (.int .u32 (d i))) := fun i hi => (BW.cell (p := ⟨a, i, none⟩) O.hi).trans (O.cell i hi)
  have HF : Hid (∀ i, i < n → W.cell? ⟨b, i, none⟩ = some (.int .i64 (q i))) := fun i hi => (BW.cell (p := ⟨b, i, none⟩) F.hi).trans (F.cell i hi)
  have HB : Hid (∀ i, i < 16 → W.cell? ⟨w1.heap.size, i, none⟩ = some (.bool (onM m i))) := OB.cell
  clear hown hgrow hown' hgrow' hi hz0 hz1 hz2 hg O F OB BB hs
  have sz := Bw.size
  have hgo : w1.heap.size + 1 ≤ w1.heap.size + 1 := Nat.le_refl _
  go_loopw [31] (fun i wr => ∃ k : Nat, k ≤ n ∧ i = .int .i64 k ∧ Own wr (w1.heap.size + 1) n (fun j => if j < k then .int .u32 (sh d q m n j) else .int .u32 0) ∧ Below (w1.heap.size + 1) W wr) (fun i _ => n - (intOf i).toNat)
  case atStart => exact ⟨0, Nat.zero_le _, rfl, O1.mono (Nat.le_refl _) (fun j _ => by simp), B1⟩

  case round =>
    obtain ⟨k, hk, rfl, OK, hB⟩ := hrel
    by_cases hkn : k < n
    · have i0' : (0 : Int) ≤ (k : Int) := by omega
      have i1 : (k : Int) < (n : Int) := by omega
      have i2 : (k : Int) < 16 := by omega
      have cx : ∀ j, j < n → wr.cell? ⟨a, j, none⟩ = some (.int .u32 (d j)) := fun j hj => (hB.cell (p := ⟨a, j, none⟩) (show a < w1.heap.size + 1 by omega)).trans (HC.out j hj)
      have cf : ∀ j, j < n → wr.cell? ⟨b, j, none⟩ = some (.int .i64 (q j)) := fun j hj => (hB.cell (p := ⟨b, j, none⟩) (show b < w1.heap.size + 1 by omega)).trans (HF.out j hj)
      have cyf : ∀ j, j < 16 → wr.cell? ⟨w1.heap.size, j, none⟩ = some (.bool (onM m j)) := fun j hj => (hB.cell (p := ⟨w1.heap.size, j, none⟩) (Nat.lt_succ_self _)).trans (HB.out j hj)
      have cy := cyf k (by omega)
      have f0 := OK.free k
      have g0 : wr.cell? ⟨w1.heap.size + 1, k, none⟩ = some (.int .u32 0) := by have := OK.cell k hkn; simpa using this
      have cq := cf k hkn
      cases ho : onM m k
      · have HO : Hid (onM m k = false) := ho
        rw [ho] at cy
        have ck := cx k hkn
        clear ho cx cf cyf
        go_wp2
        go_roundw
        case rel => exact ⟨k + 1, by omega, by go_num, OK.set k _ hkn (fun j hj => by by_cases e1 : j = k; (subst e1; rw [if_pos (by omega), if_pos rfl, sh_off d q m n _ HO.out]); rw [if_neg e1]; by_cases e2 : j < k; rw [if_pos e2, if_pos (by omega)]; rw [if_neg e2, if_neg (by omega)]), hB.setCell hgo _⟩
        case measure => simp [intOf]; omega
      · have HO : Hid (onM m k = true) := ho
        rw [ho] at cy
        clear ho cf
        obtain ⟨z, hz⟩ : ∃ z, q k = z := ⟨_, rfl⟩
        rw [hz] at cq
        have HZ : Hid (q k = z) := hz
        clear hz
        by_cases z0 : 0 ≤ z
        case neg =>
          clear cx cyf

          go_wp2
          go_roundw
          case rel => exact ⟨k + 1, by omega, by go_num, OK.mono (Nat.le_refl _) (fun j hj => by by_cases e1 : j = k; (subst e1; rw [if_pos (by omega), if_neg (by omega), sh_no d q m n _ HO.out (by have := HZ.out; omega)]); by_cases e2 : j < k; rw [if_pos e2, if_pos (by omega)]; rw [if_neg e2, if_neg (by omega)]), hB⟩
          case measure => simp [intOf]; omega

        by_cases z1 : z < (n : Int)
        case neg =>
          clear cx cyf

          go_wp2
          go_roundw
          case rel => exact ⟨k + 1, by omega, by go_num, OK.mono (Nat.le_refl _) (fun j hj => by by_cases e1 : j = k; (subst e1; rw [if_pos (by omega), if_neg (by omega), sh_no d q m n _ HO.out (by have := HZ.out; omega)]); by_cases e2 : j < k; rw [if_pos e2, if_pos (by omega)]; rw [if_neg e2, if_neg (by omega)]), hB⟩
          case measure => simp [intOf]; omega

        obtain ⟨x, hx⟩ := Int.eq_ofNat_of_zero_le z0
        subst hx
        have x1 : (x : Int) < 16 := by omega
        have x0 : (0 : Int) ≤ (x : Int) := by omega
        have HX : Hid (q k = (x : Int)) := HZ
        clear HZ
        cases hq : onM m x
        · have HQ : Hid (onM m x = false) := hq
          have cz := cyf x (by omega)
          rw [hq] at cz
          clear hq cx cyf

          go_wp2
          go_roundw
          case rel => exact ⟨k + 1, by omega, by go_num, OK.mono (Nat.le_refl _) (fun j hj => by by_cases e1 : j = k; (subst e1; rw [if_pos (by omega), if_neg (by omega), sh_un d q m n _ x HO.out HX.out HQ.out]); by_cases e2 : j < k; rw [if_pos e2, if_pos (by omega)]; rw [if_neg e2, if_neg (by omega)]), hB⟩
          case measure => simp [intOf]; omega

        · have HQ : Hid (onM m x = true) := hq
          have cz := cyf x (by omega)
          rw [hq] at cz
          clear hq
          have c2 := cx x (by omega)
          clear cx cyf
          go_wp2
          go_roundw
          case rel => exact ⟨k + 1, by omega, by go_num, OK.set k _ hkn (fun j hj => by by_cases e1 : j = k; (subst e1; rw [if_pos (by omega), if_pos rfl, sh_on d q m n _ x HO.out HX.out (by omega) HQ.out]); rw [if_neg e1]; by_cases e2 : j < k; rw [if_pos e2, if_pos (by omega)]; rw [if_neg e2, if_neg (by omega)]), hB.setCell hgo _⟩
          case measure => simp [intOf]; omega
    · have hkk : k = n := by omega
      subst hkk
      go_wp2
      go_ret2
      exact ⟨_, _, rfl, by omega, OK.mono (Nat.le_refl _) (fun j hj => by simp [hj]), BW.trans (hB.mono (by omega))⟩
set_option maxRecDepth 100000 in
set_option maxHeartbeats 4000000 in
theorem shu15 {n a b : Nat} {d q : Nat → Int} {w : World} (O : Own w a n (fun i => .int .u32 (d i))) (F : Own w b n (fun i => .int .i64 (q i))) (ca cb : Nat) (m : Int) (hg : goodM n m = true) :
    Calls Try.prog 15 #[.slice (some ⟨a, 0, none⟩) n ca, .slice (some ⟨b, 0, none⟩) n cb, .int .i64 m] w fun r w' => ∃ g cap, r = .returned (.tuple #[.slice (some ⟨g, 0, none⟩) n cap, .bool true]) ∧ w.heap.size ≤ g ∧ Own w' g n (fun i => .int .u32 (sh d q m n i)) ∧ Below w.heap.size w w' := by
  have hn := good16 hg
  have la := O.hi
  have lb := F.hi
  have HC : Hid (∀ i, i < n → w.cell? ⟨a, i, none⟩ = some (.int .u32 (d i))) := O.cell
  have HF : Hid (∀ i, i < n → w.cell? ⟨b, i, none⟩ = some (.int .i64 (q i))) := F.cell
  clear O F
  obtain ⟨i0, hi, hz0, hz1, hz2⟩ := info_parts info39
  have hlit : (w.alloc (.cells #[] 39)).ownsRow w.heap.size 39 1 (.slice (some ⟨w.heap.size, 0, none⟩) 0 0) 0 [] := World.ownsRow_lit w #[] 0 (Nat.le_refl _) (by unfold maxLen; omega) rfl
  go_enter Try.func15, Try.ntmps15
  go_wp2_with (first | (go_at_call 9; refine (gm9 _ _ _).mono ?_; rintro e w1 ⟨rfl, hw1⟩; subst w1; rw [hg]) | (at_builtin; refine wpList_append_own _ rfl _ _ 28 rfl w.heap.size 39 i0 (.int .u32 0) 1 4 Try.underlying28 hi hz0 hz1 hz2 rfl (by decide) _ _ _ rfl hlit ⟨a, 0, none⟩ n ca ((List.range n).map (fun i => Value.int .u32 (d i))) rfl (by simp) ?c1 ?c2 ?c3 ?c4 ?c5 ?_))
  case c1 =>
    intro j u hj
    have hj' := List.getElem?_eq_some_iff.1 hj
    obtain ⟨hl, hu⟩ := hj'
    simp at hl hu
    subst hu
    have e : (⟨a, 0, none⟩ : Addr).add j = ⟨a, j, none⟩ := by unfold Addr.add; split <;> simp_all
    rw [e, World.cell?_alloc_past _ _ _ la]
    exact HC.out j hl
  case c2 => intro u hu; simp at hu; obtain ⟨x, _, rfl⟩ := hu; rfl
  case c3 => unfold maxLen; omega
  case c4 => omega
  case c5 => simp
  intro v' w2 hown hgrow hnil
  obtain ⟨g, cap, hv, hgo, O1⟩ : ∃ g cap, v' = .slice (some ⟨g, 0, none⟩) n cap ∧ w.heap.size ≤ g ∧ Own w2 g n (fun i => .int .u32 (d i)) := by
    have h' := hown
    obtain ⟨_, ⟨h1, _⟩ | ⟨g, cap, cur, h1, hg1, r⟩⟩ := hown
    · exact (hnil h1).elim
    · subst h1
      exact ⟨g, cap, rfl, hg1, own_owned h' _ (fun i hi => by simp [hi])⟩
  subst hv
  have B1 : Below w.heap.size w w2 := ((Below.refl _ _).alloc (Nat.le_refl _) _).grown hgrow (by simp) (fun k hk => by simp [Value.ownBlock] at hk; omega)
  clear hown hgrow hnil hi hz0 hz1 hz2 hg hlit
  go_wp2
  go_loopw [28] (fun i wr => ∃ k : Nat, k ≤ n ∧ i = .int .i64 k ∧ Own wr g n (fun j => if j < k then .int .u32 (sh d q m n j) else .int .u32 (d j)) ∧ Below w.heap.size w wr) (fun i _ => n - (intOf i).toNat)
  case atStart => exact ⟨0, Nat.zero_le _, rfl, O1.mono (Nat.le_refl _) (fun j _ => by simp), B1⟩

  case round =>
    obtain ⟨k, hk, rfl, OK, hB⟩ := hrel
    by_cases hkn : k < n
    · have i0' : (0 : Int) ≤ (k : Int) := by omega
      have i1 : (k : Int) < (n : Int) := by omega
      have i2 : (k : Int) < 16 := by omega
      have cx : ∀ j, j < n → wr.cell? ⟨a, j, none⟩ = some (.int .u32 (d j)) := fun j hj => (hB.cell (p := ⟨a, j, none⟩) la).trans (HC.out j hj)
      have cf : ∀ j, j < n → wr.cell? ⟨b, j, none⟩ = some (.int .i64 (q j)) := fun j hj => (hB.cell (p := ⟨b, j, none⟩) lb).trans (HF.out j hj)
      have f0 := OK.free k
      have g0 : wr.cell? ⟨g, k, none⟩ = some (.int .u32 (d k)) := by have := OK.cell k hkn; simpa using this
      have cq := cf k hkn
      cases ho : onM m k
      · have HO : Hid (onM m k = false) := ho
        have ck := cx k hkn
        clear ho cx cf
        go_wp2_with (go_at_call 30; refine (on30 _ _ _ (by omega)).mono ?_; rintro e w' ⟨rfl, hw'⟩; subst w'; rw [HO.out])
        go_roundw
        case rel => exact ⟨k + 1, by omega, by go_num, OK.mono (Nat.le_refl _) (fun j hj => by by_cases e1 : j = k; (subst e1; rw [if_pos (by omega), if_neg (by omega), sh_off d q m n _ HO.out]); by_cases e2 : j < k; rw [if_pos e2, if_pos (by omega)]; rw [if_neg e2, if_neg (by omega)]), hB⟩
        case measure => simp [intOf]; omega
      · have HO : Hid (onM m k = true) := ho
        clear ho cf
        obtain ⟨z, hz⟩ : ∃ z, q k = z := ⟨_, rfl⟩
        rw [hz] at cq
        have HZ : Hid (q k = z) := hz
        clear hz
        by_cases z0 : 0 ≤ z
        case neg =>
          clear cx

          go_wp2_with (go_at_call 30; refine (on30 _ _ _ (by omega)).mono ?_; rintro e w' ⟨rfl, hw'⟩; subst w'; rw [HO.out])
          go_roundw
          case rel => exact ⟨k + 1, by omega, by go_num, (OK.set k (.int .u32 0) hkn (fun j hj => by by_cases e1 : j = k; (subst e1; rw [if_pos (by omega), if_pos rfl, sh_no d q m n _ HO.out (by have := HZ.out; omega)]); rw [if_neg e1]; by_cases e2 : j < k; rw [if_pos e2, if_pos (by omega)]; rw [if_neg e2, if_neg (by omega)])), hB.setCell hgo _⟩
          case measure => simp [intOf]; omega

        by_cases z1 : z < (n : Int)
        case neg =>
          clear cx

          go_wp2_with (go_at_call 30; refine (on30 _ _ _ (by omega)).mono ?_; rintro e w' ⟨rfl, hw'⟩; subst w'; rw [HO.out])
          go_roundw
          case rel => exact ⟨k + 1, by omega, by go_num, (OK.set k (.int .u32 0) hkn (fun j hj => by by_cases e1 : j = k; (subst e1; rw [if_pos (by omega), if_pos rfl, sh_no d q m n _ HO.out (by have := HZ.out; omega)]); rw [if_neg e1]; by_cases e2 : j < k; rw [if_pos e2, if_pos (by omega)]; rw [if_neg e2, if_neg (by omega)])), hB.setCell hgo _⟩
          case measure => simp [intOf]; omega

        obtain ⟨x, hx⟩ := Int.eq_ofNat_of_zero_le z0
        subst hx
        have x1 : (x : Int) < 16 := by omega
        have x0 : (0 : Int) ≤ (x : Int) := by omega
        have HX : Hid (q k = (x : Int)) := HZ
        clear HZ
        cases hq : onM m x
        · have HQ : Hid (onM m x = false) := hq
          
          clear hq cx

          go_wp2_with (first | (go_at_call 30; (with_reducible show Calls Try.prog 30 _ wr _); refine (on30 _ k _ (by omega)).mono ?_; rintro e w' ⟨rfl, hw'⟩; subst w'; rw [HO.out]) | (go_at_call 30; refine (on30 _ x _ (by omega)).mono ?_; rintro e w' ⟨rfl, hw'⟩; subst w'; rw [HQ.out]))
          go_roundw
          case rel => exact ⟨k + 1, by omega, by go_num, (OK.set k (.int .u32 0) hkn (fun j hj => by by_cases e1 : j = k; (subst e1; rw [if_pos (by omega), if_pos rfl, sh_un d q m n _ x HO.out HX.out HQ.out]); rw [if_neg e1]; by_cases e2 : j < k; rw [if_pos e2, if_pos (by omega)]; rw [if_neg e2, if_neg (by omega)])), hB.setCell hgo _⟩
          case measure => simp [intOf]; omega

        · have HQ : Hid (onM m x = true) := hq
          
          clear hq
          have c2 : (wr.setCell ⟨g, k, none⟩ (.int .u32 0)).cell? ⟨a, x, none⟩ = some (.int .u32 (d x)) := by
            rw [World.cell?_setCell_other (h := by intro hh; injection hh with h1; omega)]; exact cx x (by omega)
          clear cx
          go_wp2_with (first | (go_at_call 30; (with_reducible show Calls Try.prog 30 _ wr _); refine (on30 _ k _ (by omega)).mono ?_; rintro e w' ⟨rfl, hw'⟩; subst w'; rw [HO.out]) | (go_at_call 30; refine (on30 _ x _ (by omega)).mono ?_; rintro e w' ⟨rfl, hw'⟩; subst w'; rw [HQ.out]))
          go_roundw
          case rel => exact ⟨k + 1, by omega, by go_num, ((OK.set k (.int .u32 0) hkn (g := fun j => if j = k then .int .u32 0 else if j < k then .int .u32 (sh d q m n j) else .int .u32 (d j)) (fun j _ => rfl)).set k _ hkn (fun j hj => by by_cases e1 : j = k; (subst e1; rw [if_pos (by omega), if_pos rfl, sh_on d q m n _ x HO.out HX.out (by omega) HQ.out]); rw [if_neg e1, if_neg e1]; by_cases e2 : j < k; rw [if_pos e2, if_pos (by omega)]; rw [if_neg e2, if_neg (by omega)])), (hB.setCell hgo _).setCell hgo _⟩
          case measure => simp [intOf]; omega
    · have hkk : k = n := by omega
      subst hkk
      go_wp2
      go_ret2
      exact ⟨_, _, rfl, hgo, OK.mono (Nat.le_refl _) (fun j hj => by simp [hj]), hB⟩
theorem shu15x (n p : Nat) (a b : Option Addr) (ca cb : Nat) (m : Int) (w : World) (hg : ¬ (goodM n m = true ∧ n = p)) :
    Calls Try.prog 15 #[.slice a n ca, .slice b p cb, .int .i64 m] w fun r w' => r = .returned (.tuple #[.slice none 0 0, .bool false]) ∧ w' = w := by
  cases h : goodM n m
  · go_enter Try.func15, Try.ntmps15
    go_wp2_with (go_at_call 9; refine (gm9 _ _ _).mono ?_; rintro e w1 ⟨rfl, hw1⟩; subst w1; rw [h])
    go_ret2
    exact ⟨rfl, rfl⟩
  · have hne : ¬ (p : Int) = (n : Int) := fun e => hg ⟨h, by omega⟩
    clear hg
    go_enter Try.func15, Try.ntmps15
    go_wp2_with (go_at_call 9; refine (gm9 _ _ _).mono ?_; rintro e w1 ⟨rfl, hw1⟩; subst w1; rw [h])
    go_ret2
    exact ⟨rfl, rfl⟩
theorem shu18x (n p : Nat) (a b : Option Addr) (ca cb : Nat) (m : Int) (w : World) (hg : ¬ (goodM n m = true ∧ n = p)) :
    Calls Try.prog 18 #[.slice a n ca, .slice b p cb, .int .i64 m] w fun r w' => r = .returned (.tuple #[.slice none 0 0, .bool false]) ∧ w' = w := by
  cases h : goodM n m
  · go_enter Try.func18, Try.ntmps18
    go_wp2_with (go_at_call 10; refine (gm10 _ _ _).mono ?_; rintro e w1 ⟨rfl, hw1⟩; subst w1; rw [h])
    go_ret2
    exact ⟨rfl, rfl⟩
  · have hne : ¬ (p : Int) = (n : Int) := fun e => hg ⟨h, by omega⟩
    clear hg
    go_enter Try.func18, Try.ntmps18
    go_wp2_with (go_at_call 10; refine (gm10 _ _ _).mono ?_; rintro e w1 ⟨rfl, hw1⟩; subst w1; rw [h])
    go_ret2
    exact ⟨rfl, rfl⟩
end Go.Proofs.Ytlcfpcapefeajaa
