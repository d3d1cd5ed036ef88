/- The program's small functions for PackStruct: a number's bytes, whether a field's numbers are as it asks, all of them; conditions: words of 32 bits, widths of two or four bytes. -/
import Derived.Test.YteakeaclpcgopaaPckM
namespace Go.Proofs.Yteakeaclpcgopaa
open Go.ChangeShapes Go.WideShapes Go.ChangeAt Go.RowKit
open Tk (Own Only)
set_option linter.unusedVariables false
set_option maxRecDepth 100000 in
set_option maxHeartbeats 4000000 in
theorem bytes70 (v : Int) (W : Nat) (w : World) (hW : W = 2 ∨ W = 4) (v0 : 0 ≤ v) (v1 : v < 4294967296) : Calls Try.prog 70 #[.int .u32 v, .int .i64 W] w fun e w' => ∃ x, e = .returned x ∧ ∃ g c, x = .slice (some ⟨g, 0, none⟩) W c ∧ Own w' g W (fun b => .int .u8 (byteOf v b)) ∧ w.heap.size ≤ g ∧ Below w.heap.size w w' := by
  obtain ⟨i5', hi5, hz50, hz51, hz52⟩ := info_parts info5'
  go_enter Try.func70, Try.ntmps70
  go_wp2
  go_loopw [5, 8] (fun vv i wr => ∃ (k : Nat) (u : Value), k ≤ W ∧ i = .int .i64 k ∧ u = vv ∧ wr.ownsRow w.heap.size 5 1 u k ((List.range k).map fun b => .int .u8 (byteOf v b)) ∧ Below w.heap.size w wr) (fun _ i _ => W - (intOf i).toNat)
  case atStart => exact ⟨0, .slice none 0 0, by omega, rfl, rfl, World.ownsRow_nil _ _ _ _, Below.refl _ _⟩
  case round =>
    obtain ⟨k, u, hk, rfl, rfl, OU, B⟩ := hrel
    have HOU : Hid (wr.ownsRow w.heap.size 5 1 u k ((List.range k).map fun b => .int .u8 (byteOf v b))) := OU
    by_cases hkn : k < W
    · have i1 : (k : Int) < (W : Int) := by omega
      obtain ⟨y, hy⟩ : ∃ y, byteOf v k = y := ⟨_, rfl⟩
      have HY : Hid (byteOf v k = y) := hy
      have k4 : k = 0 ∨ k = 1 ∨ k = 2 ∨ k = 3 := by omega
      unfold byteOf at hy
      have B0 := B.size
      clear OU
      rcases k4 with rfl | rfl | rfl | rfl
      · simp at hy
        try (have hy3 : v / 16777216 = y := by omega)
        have e1 : List.range 1 = List.range 0 ++ [0] := rfl
        go_wp2_with (at_builtin; refine wpList_append_own _ rfl _ _ 46 rfl w.heap.size 5 i5' (.int .u8 0) 1 1 Try.underlying46 hi5 hz50 hz51 hz52 rfl (by decide) _ _ _ rfl (HOU.out.alloc _) ⟨wr.heap.size, 0, none⟩ 1 1 [.int .u8 y] rfl rfl ?c1 ?c2 ?c3 ?c4 ?c5 ?_)
        try
          case c1 =>
            intro j u hj
            match j, hj with
            | 0, hj => simp at hj; subst hj; simp [Addr.add]
        case c2 => first | (intro u hu; simp at hu; subst hu; rfl) | rfl
        case c3 => unfold maxLen; omega
        case c4 => omega
        case c5 => first | omega | (simp; omega)
        intro v' w4 hown' hgrow hnil
        have R1 : Hid (w4.ownsRow w.heap.size 5 1 v' 1 ((List.range 1).map fun b => .int .u8 (byteOf v b))) := by
          show World.ownsRow _ _ _ _ _ _ _
          rw [e1, List.map_append]
          simp only [List.map_cons, List.map_nil]
          rw [HY.out]
          exact hown'
        have B4 : Hid (Below w.heap.size w w4) := (B.alloc B.size _).grown hgrow (by simp; omega) (fun g hg => (HOU.out.lt g hg).1)
        clear hown' hgrow hnil
        go_wp2
        go_roundw
        case rel => exact ⟨1, _, hkn, by go_num, rfl, R1.out, B4.out⟩
        case measure => simp [intOf]; omega
      · simp at hy
        try (have hy3 : v / 16777216 = y := by omega)
        have e1 : List.range 2 = List.range 1 ++ [1] := rfl
        go_wp2_with (at_builtin; refine wpList_append_own _ rfl _ _ 46 rfl w.heap.size 5 i5' (.int .u8 0) 1 1 Try.underlying46 hi5 hz50 hz51 hz52 rfl (by decide) _ _ _ rfl (HOU.out.alloc _) ⟨wr.heap.size, 0, none⟩ 1 1 [.int .u8 y] rfl rfl ?c1 ?c2 ?c3 ?c4 ?c5 ?_)
        try
          case c1 =>
            intro j u hj
            match j, hj with
            | 0, hj => simp at hj; subst hj; simp [Addr.add]
        case c2 => first | (intro u hu; simp at hu; subst hu; rfl) | rfl
        case c3 => unfold maxLen; omega
        case c4 => omega
        case c5 => first | omega | (simp; omega)
        intro v' w4 hown' hgrow hnil
        have R1 : Hid (w4.ownsRow w.heap.size 5 1 v' 2 ((List.range 2).map fun b => .int .u8 (byteOf v b))) := by
          show World.ownsRow _ _ _ _ _ _ _
          rw [e1, List.map_append]
          simp only [List.map_cons, List.map_nil]
          rw [HY.out]
          exact hown'
        have B4 : Hid (Below w.heap.size w w4) := (B.alloc B.size _).grown hgrow (by simp; omega) (fun g hg => (HOU.out.lt g hg).1)
        clear hown' hgrow hnil
        go_wp2
        go_roundw
        case rel => exact ⟨2, _, hkn, by go_num, rfl, R1.out, B4.out⟩
        case measure => simp [intOf]; omega
      · simp at hy
        try (have hy3 : v / 16777216 = y := by omega)
        have e1 : List.range 3 = List.range 2 ++ [2] := rfl
        go_wp2_with (at_builtin; refine wpList_append_own _ rfl _ _ 46 rfl w.heap.size 5 i5' (.int .u8 0) 1 1 Try.underlying46 hi5 hz50 hz51 hz52 rfl (by decide) _ _ _ rfl (HOU.out.alloc _) ⟨wr.heap.size, 0, none⟩ 1 1 [.int .u8 y] rfl rfl ?c1 ?c2 ?c3 ?c4 ?c5 ?_)
        try
          case c1 =>
            intro j u hj
            match j, hj with
            | 0, hj => simp at hj; subst hj; simp [Addr.add]
        case c2 => first | (intro u hu; simp at hu; subst hu; rfl) | rfl
        case c3 => unfold maxLen; omega
        case c4 => omega
        case c5 => first | omega | (simp; omega)
        intro v' w4 hown' hgrow hnil
        have R1 : Hid (w4.ownsRow w.heap.size 5 1 v' 3 ((List.range 3).map fun b => .int .u8 (byteOf v b))) := by
          show World.ownsRow _ _ _ _ _ _ _
          rw [e1, List.map_append]
          simp only [List.map_cons, List.map_nil]
          rw [HY.out]
          exact hown'
        have B4 : Hid (Below w.heap.size w w4) := (B.alloc B.size _).grown hgrow (by simp; omega) (fun g hg => (HOU.out.lt g hg).1)
        clear hown' hgrow hnil
        go_wp2
        go_roundw
        case rel => exact ⟨3, _, hkn, by go_num, rfl, R1.out, B4.out⟩
        case measure => simp [intOf]; omega
      · simp at hy
        try (have hy3 : v / 16777216 = y := by omega)
        have e1 : List.range 4 = List.range 3 ++ [3] := rfl
        go_wp2_with (at_builtin; refine wpList_append_own _ rfl _ _ 46 rfl w.heap.size 5 i5' (.int .u8 0) 1 1 Try.underlying46 hi5 hz50 hz51 hz52 rfl (by decide) _ _ _ rfl (HOU.out.alloc _) ⟨wr.heap.size, 0, none⟩ 1 1 [.int .u8 y] rfl rfl ?c1 ?c2 ?c3 ?c4 ?c5 ?_)
        try
          case c1 =>
            intro j u hj
            match j, hj with
            | 0, hj => simp at hj; subst hj; simp [Addr.add]
        case c2 => first | (intro u hu; simp at hu; subst hu; rfl) | rfl
        case c3 => unfold maxLen; omega
        case c4 => omega
        case c5 => first | omega | (simp; omega)
        intro v' w4 hown' hgrow hnil
        have R1 : Hid (w4.ownsRow w.heap.size 5 1 v' 4 ((List.range 4).map fun b => .int .u8 (byteOf v b))) := by
          show World.ownsRow _ _ _ _ _ _ _
          rw [e1, List.map_append]
          simp only [List.map_cons, List.map_nil]
          rw [HY.out]
          exact hown'
        have B4 : Hid (Below w.heap.size w w4) := (B.alloc B.size _).grown hgrow (by simp; omega) (fun g hg => (HOU.out.lt g hg).1)
        clear hown' hgrow hnil
        go_wp2
        go_roundw
        case rel => exact ⟨4, _, hkn, by go_num, rfl, R1.out, B4.out⟩
        case measure => simp [intOf]; omega
    · have hkk : k = W := by omega
      have i1 : ¬ (k : Int) < (W : Int) := by omega
      subst hkk
      obtain ⟨g, c, rfl, hg, _⟩ := World.ownsRow.form OU (by omega)
      have HO : Hid (Own wr g k (fun b => .int .u8 (byteOf v b))) := Tk.own_owned OU _ (fun i hi => by simp [hi])
      clear OU HOU
      go_wp2
      go_ret
      first | exact ⟨_, rfl, g, c, rfl, HO.out, hg, B⟩ | exact ⟨_, rfl, g, ⟨c, rfl⟩, HO.out, hg, B⟩
/-- A word that is too wide. -/
def tooW (W : Nat) (x : Int) : Bool := decide (W = 2 ∧ 65536 ≤ x)
set_option maxRecDepth 100000 in
set_option maxHeartbeats 4000000 in
theorem wide85 (x : Int) (W o : Nat) (w : World) (hW : W = 2 ∨ W = 4) (x0 : 0 ≤ x) (x1 : x < 4294967296) (c2 : w.cell? ⟨o, 2, none⟩ = some (.int .i64 W)) : Calls Try.prog 85 #[.int .u32 x, .pointer (some ⟨o, 0, none⟩)] w fun e w' => e = .returned (.bool (tooW W x)) ∧ w' = w := by
  rcases hW with rfl | rfl
  · by_cases h : 65536 ≤ x
    · have e : (x / 65536 != 0) = true := by simpa using (show ¬ x / 65536 = 0 by omega)
      rw [show tooW 2 x = true by simp [tooW, h]]
      go_enter Try.func85, Try.ntmps85
      go_wp2
      go_ret
      exact ⟨rfl, rfl⟩
    · have e : x / 65536 = 0 := by omega
      rw [show tooW 2 x = false by simp [tooW, h]]
      go_enter Try.func85, Try.ntmps85
      go_wp2
      go_ret
      exact ⟨rfl, rfl⟩
  · rw [show tooW 4 x = false by simp [tooW]]
    have e : x / 4294967296 = 0 := by omega
    go_enter Try.func85, Try.ntmps85
    go_wp2
    go_ret
    exact ⟨rfl, rfl⟩
set_option maxRecDepth 100000 in
set_option maxHeartbeats 4000000 in
theorem index92 (G L c W o : Nat) (V : Nat → Int) (w : World) (X : Own w G L (fun j => .int .u32 (V j))) (hL : L ≤ 1048576) (hW : W = 2 ∨ W = 4) (hV : ∀ j, 0 ≤ V j ∧ V j < 4294967296) (c2 : w.cell? ⟨o, 2, none⟩ = some (.int .i64 W)) : Calls Try.prog 92 #[.slice (some ⟨G, 0, none⟩) L c, (.func (.func 85) #[] #[.pointer (some ⟨o, 0, none⟩)])] w fun e w' => ∃ z : Int, e = .returned (.int .i64 z) ∧ (0 ≤ z ↔ ∃ j, j < L ∧ tooW W (V j) = true) ∧ w' = w := by
  have H85 : Hid (∀ x : Int, 0 ≤ x → x < 4294967296 → Calls Try.prog 85 #[.int .u32 x, .pointer (some ⟨o, 0, none⟩)] w fun e w' => e = .returned (.bool (tooW W x)) ∧ w' = w) := fun x x0 x1 => wide85 x W o w hW x0 x1 c2
  have HX : Hid (∀ j, j < L → w.cell? ⟨G, j, none⟩ = some (.int .u32 (V j))) := X.cell
  clear X c2
  go_enter Try.func92, Try.ntmps92
  go_wp2
  go_loopw [8] (fun i wr => ∃ (k : Nat), k ≤ L ∧ i = .int .i64 k ∧ Hid (∀ j, j < k → tooW W (V j) = false) ∧ wr = w) (fun i _ => L - (intOf i).toNat)
  case atStart => exact ⟨0, by omega, rfl, fun j hj => by omega, rfl⟩
  case round =>
    obtain ⟨k, hk, rfl, HF, rfl⟩ := hrel
    by_cases hkn : k < L
    · have i1 : (k : Int) < (L : Int) := by omega
      have i0 : (0 : Int) ≤ (k : Int) := by omega
      have d0 := HX.out k hkn
      have hv := hV k
      have H85k := H85.out (V k) hv.1 hv.2
      obtain ⟨B, hB⟩ : ∃ B, tooW W (V k) = B := ⟨_, rfl⟩
      rw [hB] at H85k
      have HBk : Hid (tooW W (V k) = B) := hB
      clear hB
      cases B
      · go_wp2_with (go_at_call 85; refine H85k.mono ?_; rintro e w' ⟨rfl, hw'⟩; subst w')
        go_roundw
        case rel => exact ⟨k + 1, by omega, by go_num, fun j hj => by
          by_cases e : j = k
          · subst e; exact HBk.out
          · exact HF.out j (by omega), by first | rfl | trivial⟩
        case measure => simp [intOf]; omega
      · have HQ : Hid (0 ≤ (k : Int) ↔ ∃ j, j < L ∧ tooW W (V j) = true) := ⟨fun _ => ⟨k, hkn, HBk.out⟩, fun _ => by omega⟩
        go_wp2_with (go_at_call 85; refine H85k.mono ?_; rintro e w' ⟨rfl, hw'⟩; subst w')
        go_ret
        exact ⟨_, rfl, HQ.out, rfl⟩
    · have hkk : k = L := by omega
      have i1 : ¬ (k : Int) < (L : Int) := by omega
      have HQ : Hid (0 ≤ (-1 : Int) ↔ ∃ j, j < L ∧ tooW W (V j) = true) := ⟨fun h => by omega, fun ⟨j, hj, h⟩ => by rw [HF.out j (by omega)] at h; cases h⟩
      clear hkk
      go_wp2
      go_ret
      exact ⟨_, rfl, HQ.out, rfl⟩
set_option maxRecDepth 100000 in
set_option maxHeartbeats 4000000 in
theorem contains84 (G L c W o : Nat) (V : Nat → Int) (w : World) (X : Own w G L (fun j => .int .u32 (V j))) (hL : L ≤ 1048576) (hW : W = 2 ∨ W = 4) (hV : ∀ j, 0 ≤ V j ∧ V j < 4294967296) (c2 : w.cell? ⟨o, 2, none⟩ = some (.int .i64 W)) : Calls Try.prog 84 #[.slice (some ⟨G, 0, none⟩) L c, (.func (.func 85) #[] #[.pointer (some ⟨o, 0, none⟩)])] w fun e w' => ∃ B : Bool, e = .returned (.bool B) ∧ (B = true ↔ ∃ j, j < L ∧ tooW W (V j) = true) ∧ w' = w := by
  have H92 : Hid (Calls Try.prog 92 #[.slice (some ⟨G, 0, none⟩) L c, (.func (.func 85) #[] #[.pointer (some ⟨o, 0, none⟩)])] w fun e w' => ∃ z : Int, e = .returned (.int .i64 z) ∧ (0 ≤ z ↔ ∃ j, j < L ∧ tooW W (V j) = true) ∧ w' = w) := index92 G L c W o V w X hL hW hV c2
  clear X c2
  go_enter Try.func84, Try.ntmps84
  go_wp2_with (go_at_call 92; refine H92.out.mono ?_; rintro e w1 ⟨z, rfl, hz, hw1⟩; subst w1; (have Hz : Hid (0 ≤ z ↔ ∃ j, j < L ∧ tooW W (V j) = true) := hz); clear hz)
  go_ret
  exact ⟨_, rfl, by first | (rw [decide_eq_true_iff]; exact Hz.out) | (simp only [decide_eq_true_eq]; exact Hz.out), rfl⟩
theorem cnt_eq (k : Nat) (a : Int) (h : k ≤ 8) (a0 : 0 ≤ a) (a1 : a ≤ 64) : (cntN k a : Int) = max a 1 * cols k * nums k ∧ 1 ≤ cols k ∧ cols k ≤ 4 ∧ 1 ≤ nums k ∧ nums k ≤ 4 := by
  obtain ⟨e1, e2, c1, c4, q1, q4⟩ := colsN_eq k h
  have hm : (manyN a : Int) = max a 1 := by unfold manyN; split <;> omega
  refine ⟨?_, by omega, by omega, by omega, by omega⟩
  unfold cntN
  rw [e1, e2, ← hm, Int.natCast_mul, Int.natCast_mul]
/-- B says whether P. -/
def Is8 (B : Bool) (P : Prop) : Prop := B = true ↔ P
def PV (nv n : Nat) (T : Nat → ByteArray) (J : Nat → Int) (L : Nat → Nat) (V : Nat → Nat → Int) : Prop := nv = n ∧ GoodV T J n L V
theorem tooW_iff (W : Nat) (x : Int) : tooW W x = false ↔ (W = 2 → x < 65536) := by
  unfold tooW
  rw [decide_eq_false_iff_not]
  omega
set_option maxRecDepth 100000 in
set_option maxHeartbeats 4000000 in
theorem good69 (nm t : ByteArray) (a : Int) (G L c : Nat) (V : Nat → Int) (w : World) (X : Own w G L (fun j => .int .u32 (V j))) (hL : L ≤ 1048576) (hk : kOf t ≤ 8) (a0 : 0 ≤ a) (a1 : a ≤ 64) (hV : ∀ j, 0 ≤ V j ∧ V j < 4294967296) : Calls Try.prog 69 #[.agg #[.string nm, .string t, .int .i64 a], .slice (some ⟨G, 0, none⟩) L c] w fun e w' => ∃ B : Bool, e = .returned (.bool B) ∧ Is8 B (L = cntN (kOf t) a ∧ ∀ j, j < L → wid (kOf t) = 2 → V j < 65536) ∧ Below w.heap.size w w' := by
  obtain ⟨ce, q1, q2, q3, q4⟩ := cnt_eq (kOf t) a hk a0 a1
  have w24 := w_two (kOf t) hk
  have H64 : Hid (∀ w, Calls Try.prog 64 #[.string t] w fun e w' => e = .returned (.agg #[.int .i64 (cols (kOf t)), .int .i64 (nums (kOf t)), .int .i64 (wid (kOf t))]) ∧ Below w.heap.size w w') := fun w => shape64 t w
  generalize cntN (kOf t) a = CC at *
  generalize cols (kOf t) = p1 at *
  generalize nums (kOf t) = p2 at *
  generalize wid (kOf t) = W at *
  obtain ⟨W', hW'⟩ : ∃ W' : Nat, W = (W' : Int) := ⟨W.toNat, by omega⟩
  have hW2 : W' = 2 ∨ W' = 4 := by omega
  subst hW'
  have m1 : 1 ≤ max a 1 ∧ max a 1 ≤ 64 := by omega
  obtain ⟨mx, hmx⟩ : ∃ x, max a 1 = x := ⟨_, rfl⟩
  rw [hmx] at ce m1
  have hmx2 : (if a < 1 then 1 else a) = mx := by rw [← hmx]; split <;> omega
  have pr1 : 1 ≤ mx * p1 ∧ mx * p1 ≤ 256 := ⟨by have := Int.mul_le_mul m1.1 q1 (by omega) (by omega); omega, by have := Int.mul_le_mul m1.2 q2 (by omega) (by omega); omega⟩
  have e1 : IntKind.i64.wrap (mx * p1) = mx * p1 := (IntKind.wrap_i64 _).trans (by omega)
  have pr2 : 1 ≤ mx * p1 * p2 ∧ mx * p1 * p2 ≤ 1024 := ⟨by have := Int.mul_le_mul pr1.1 q3 (by omega) (by omega); omega, by have := Int.mul_le_mul pr1.2 q4 (by omega) (by omega); omega⟩
  have e2 : IntKind.i64.wrap (mx * p1 * p2) = mx * p1 * p2 := (IntKind.wrap_i64 _).trans (by omega)
  have HX : Hid (Own w G L (fun j => .int .u32 (V j))) := X
  have b0 : Below w.heap.size w (w.alloc (.cells #[.string nm, .string t, .int .i64 a] 61)) := alloc_b
  clear X
  have H84 : Hid (∀ o w', Below w.heap.size w w' → w'.cell? ⟨o, 2, none⟩ = some (.int .i64 W') → Calls Try.prog 84 #[.slice (some ⟨G, 0, none⟩) L c, (.func (.func 85) #[] #[.pointer (some ⟨o, 0, none⟩)])] w' fun e w'' => ∃ B : Bool, e = .returned (.bool B) ∧ (B = true ↔ ∃ j, j < L ∧ tooW W' (V j) = true) ∧ w'' = w') := fun o w' bb c2 => contains84 G L c W' o V w' (HX.out.next bb) hL hW2 hV c2
  by_cases hlen : L = CC
  · have hne : ((L : Int) != mx * p1 * p2) = false := by rw [← ce]; simp; omega
    have HQ : Hid (∀ B : Bool, (B = true ↔ ∃ j, j < L ∧ tooW W' (V j) = true) → Is8 (!B) (L = CC ∧ ∀ j, j < L → (W' : Int) = 2 → V j < 65536)) := fun B hB => by
      cases B
      · refine ⟨fun _ => ⟨hlen, fun j hj h2 => ?_⟩, fun _ => rfl⟩
        have h : tooW W' (V j) = false := by
          cases hh : tooW W' (V j)
          · rfl
          · have := hB.2 ⟨j, hj, hh⟩; cases this
        exact (tooW_iff W' (V j)).1 h (by omega)
      · refine ⟨fun h => (by cases h), fun h => ?_⟩
        obtain ⟨j, hj, hh⟩ := hB.1 rfl
        have := (tooW_iff W' (V j)).2 (fun h2 => h.2 j hj (by omega))
        rw [this] at hh
        cases hh
    clear ce pr1 pr2 hlen
    go_enter Try.func69, Try.ntmps69
    go_wp2_with (first | (go_at_call 64; refine (H64.out _).mono ?_; rintro e w3 ⟨rfl, B3⟩; (have b3 : Below w.heap.size w w3 := b0.trans (B3.mono b0.size)); (obtain ⟨f0, f1, f2, _, _, _, _⟩ := (C3.new w (.string nm) (.string t) (.int .i64 a) 61).next B3); (have hsz : w.heap.size < w3.heap.size := by have := B3.size; rw [World.size_alloc] at this; omega); (have b4 : Below w.heap.size w (w3.alloc (.cells #[.int .i64 p1, .int .i64 p2, .int .i64 W'] 89)) := b3.alloc b3.size _); (have cc2 : (w3.alloc (.cells #[.int .i64 p1, .int .i64 p2, .int .i64 W'] 89)).cell? ⟨w3.heap.size, 2, none⟩ = some (.int .i64 W') := (C3.new w3 (.int .i64 p1) (.int .i64 p2) (.int .i64 W') 89).c2)) | (go_at_call 84; go_loud (refine (H84.out w3.heap.size _ b4 cc2).mono ?_; rintro e w5 ⟨B, rfl, hB, hw5⟩; subst w5; (have HB : Hid (B = true ↔ ∃ j, j < L ∧ tooW W' (V j) = true) := hB); clear hB)))
    go_ret
    first | exact ⟨_, rfl, HQ.out B HB.out, b4⟩ | exact Or.inl ⟨rfl, HQ.out B HB.out, b4⟩ | exact Or.inr ⟨rfl, HQ.out B HB.out, b4⟩
  · have hne : ((L : Int) != mx * p1 * p2) = true := by rw [← ce]; simp; omega
    have HQ : Hid (Is8 false (L = CC ∧ ∀ j, j < L → (W' : Int) = 2 → V j < 65536)) := ⟨fun h => (by cases h), fun h => absurd h.1 hlen⟩
    clear ce pr1 pr2 hlen
    go_enter Try.func69, Try.ntmps69
    go_wp2_with (go_at_call 64; refine (H64.out _).mono ?_; rintro e w3 ⟨rfl, B3⟩; (have b3 : Below w.heap.size w w3 := b0.trans (B3.mono b0.size)); (obtain ⟨f0, f1, f2, _, _, _, _⟩ := (C3.new w (.string nm) (.string t) (.int .i64 a) 61).next B3); (have hsz : w.heap.size < w3.heap.size := by have := B3.size; rw [World.size_alloc] at this; omega))
    go_ret
    first | exact ⟨_, rfl, HQ.out, b3.alloc b3.size _⟩ | exact Or.inl ⟨rfl, HQ.out, b3.alloc b3.size _⟩ | exact Or.inr ⟨rfl, HQ.out, b3.alloc b3.size _⟩
set_option maxRecDepth 100000 in
set_option maxHeartbeats 4000000 in
theorem equal68 (n a b nv : Nat) (K T : Nat → ByteArray) (J : Nat → Int) (G L : Nat → Nat) (V : Nat → Nat → Int) (w : World) (X : Row3 w a n K T J) (hn : n ≤ 1048576) (Y : RowsG w b nv G L V) (hL : ∀ i, i < nv → L i ≤ 1048576) (hV : ∀ i j, 0 ≤ V i j ∧ V i j < 4294967296) (hg : ∀ i, i < n → kOf (T i) ≤ 8 ∧ 0 ≤ J i ∧ J i ≤ 64) : Calls Try.prog 68 #[.slice (some ⟨a, 0, none⟩) n n, .slice (some ⟨b, 0, none⟩) nv nv, .func (.func 69) #[] #[]] w fun e w' => ∃ B : Bool, e = .returned (.bool B) ∧ Is8 B (PV nv n T J L V) ∧ Below w.heap.size w w' := by
  by_cases hne : nv = n
  case neg =>
    have h1 : ((n : Int) != (nv : Int)) = true := by simp; omega
    have HQ : Hid (Is8 false (PV nv n T J L V)) := ⟨fun h => (by cases h), fun h => absurd h.1 hne⟩
    clear hne
    go_enter Try.func68, Try.ntmps68
    go_wp2
    go_ret
    first | exact ⟨_, rfl, HQ.out, Below.refl _ _⟩ | exact Or.inl ⟨rfl, HQ.out, Below.refl _ _⟩ | exact Or.inr ⟨rfl, HQ.out, Below.refl _ _⟩
  subst hne
  have HX : Hid (Row3 w a nv K T J) := X
  have HY : Hid (RowsG w b nv G L V) := Y
  clear X Y
  go_enter Try.func68, Try.ntmps68
  go_wp2
  go_loopw [17] (fun i wr => ∃ (k : Nat), k ≤ nv ∧ i = .int .i64 k ∧ Hid (∀ i, i < k → FitV T J L V i) ∧ Below w.heap.size w wr) (fun i _ => nv - (intOf i).toNat)
  case atStart => exact ⟨0, by omega, rfl, fun j hj => by omega, Below.refl _ _⟩
  case round =>
    obtain ⟨k, hk, rfl, HF, B⟩ := hrel
    by_cases hkn : k < nv
    · have i1 : (k : Int) < (nv : Int) := by omega
      have i0 : (0 : Int) ≤ (k : Int) := by omega
      have XX := HX.out.next B
      have c0 := XX.k k hkn
      have c1 := XX.t k hkn
      have c2 := XX.j k hkn
      have YY := HY.out.next B
      have d0 := YY.top.cell k hkn
      obtain ⟨gk, g0, g1⟩ := hg k hkn
      have H69 : Hid (∀ w', Below wr.heap.size wr w' → Calls Try.prog 69 #[.agg #[.string (K k), .string (T k), .int .i64 (J k)], .slice (some ⟨G k, 0, none⟩) (L k) (L k)] w' fun e w'' => ∃ B : Bool, e = .returned (.bool B) ∧ Is8 B (FitV T J L V k) ∧ Below w'.heap.size w' w'') := fun w' bb => good69 (K k) (T k) (J k) (G k) (L k) (L k) (V k) w' ((YY.row k hkn).next bb) (hL k hkn) gk g0 g1 (hV k)
      have hlt : b < wr.heap.size := YY.top.hi
      have al : Below wr.heap.size wr (wr.alloc (.cells #[.string (K k), .string (T k), .int .i64 (J k)] 61)) := alloc_b
      clear XX YY
      go_wp2_with (go_at_call 69; refine (H69.out _ al).mono ?_; rintro e w3 ⟨B', rfl, hB', B3⟩; (have HB' : Hid (Is8 B' (FitV T J L V k)) := hB'); (clear hB'); cases B')
      all_goals
        have b3 : Below w.heap.size w w3 := B.trans ((al.trans (B3.mono al.size)).mono B.size)
      · have HQ : Hid (Is8 false (PV nv nv T J L V)) := ⟨fun h => (by cases h), fun h => HB'.out.2 (h.2 k hkn)⟩
        first | go_wp2 | skip
        go_ret
        first | exact ⟨_, rfl, HQ.out, b3⟩ | exact Or.inl ⟨rfl, HQ.out, b3⟩ | exact Or.inr ⟨rfl, HQ.out, b3⟩
      · first | go_wp2 | skip
        go_roundw
        case rel => exact ⟨k + 1, by omega, by go_num, fun i hi => by
          by_cases e : i = k
          · subst e; exact HB'.out.1 rfl
          · exact HF.out i (by omega), b3⟩
        case measure => simp [intOf]; omega
    · have hkk : k = nv := by omega
      have i1 : ¬ (k : Int) < (nv : Int) := by omega
      have HQ : Hid (Is8 true (PV nv nv T J L V)) := ⟨fun _ => ⟨rfl, fun i hi => HF.out i (by omega)⟩, fun _ => rfl⟩
      clear hkk
      go_wp2
      go_ret
      first | exact ⟨_, rfl, HQ.out, B⟩ | exact Or.inl ⟨rfl, HQ.out, B⟩ | exact Or.inr ⟨rfl, HQ.out, B⟩
end Go.Proofs.Yteakeaclpcgopaa
