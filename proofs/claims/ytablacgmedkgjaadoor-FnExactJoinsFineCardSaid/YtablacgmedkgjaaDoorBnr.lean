/- Numbers as bytes, the lowest first: the program's bytesOfNumber, the model's l10Low, both checks (Crc); conditions: words of 32 bits, the row stands in memory. -/
import Derived.Test.YtablacgmedkgjaaDoorByt
import Derived.Deep.AppendLies
import Derived.Laws.AppendOwn
namespace Go.Proofs.YtablacgmedkgjaaDoor
open Go.ChangeShapes Go.WideShapes Go.ChangeAt Go.RowKit
set_option linter.unusedVariables false
def byteOf (v : Int) (b : Nat) : Int := v / 256 ^ b % 256
theorem byteOf_range (v : Int) (b : Nat) : 0 ≤ byteOf v b ∧ byteOf v b < 256 := ⟨Int.emod_nonneg _ (by omega), Int.emod_lt_of_pos _ (by omega)⟩
set_option maxRecDepth 100000 in
set_option maxHeartbeats 4000000 in
theorem bytes43 (v : Int) (W : Nat) (w : World) (hW : W = 1 ∨ W = 2 ∨ W = 4) (v0 : 0 ≤ v) (v1 : v < 4294967296) : Calls Tryd.prog 47 #[.int .u32 v, .int .i64 W] w fun e w' => ∃ x, e = .returned x ∧ ∃ g c, x = .slice (some ⟨g, 0, none⟩) W c ∧ Own w' g W (fun b => .int .u8 (byteOf v b)) ∧ w.heap.size ≤ g ∧ Below w.heap.size w w' := by
  obtain ⟨i5', hi5, hz50, hz51, hz52⟩ := info_parts info5
  go_enter Tryd.func47, Tryd.ntmps47
  go_wp2
  go_loopw [5, 8] (fun vv i wr => ∃ (k : Nat) (u : Value), k ≤ W ∧ i = .int .i64 k ∧ u = vv ∧ wr.ownsRow w.heap.size 5 1 u k ((List.range k).map fun b => .int .u8 (byteOf v b)) ∧ Below w.heap.size w wr) (fun _ i _ => W - (intOf i).toNat)
  case atStart => exact ⟨0, .slice none 0 0, by omega, rfl, rfl, World.ownsRow_nil _ _ _ _, Below.refl _ _⟩
  case round =>
    obtain ⟨k, u, hk, rfl, rfl, OU, B⟩ := hrel
    have HOU : Hid (wr.ownsRow w.heap.size 5 1 u k ((List.range k).map fun b => .int .u8 (byteOf v b))) := OU
    by_cases hkn : k < W
    · have i1 : (k : Int) < (W : Int) := by omega
      obtain ⟨y, hy⟩ : ∃ y, byteOf v k = y := ⟨_, rfl⟩
      have HY : Hid (byteOf v k = y) := hy
      have k4 : k = 0 ∨ k = 1 ∨ k = 2 ∨ k = 3 := by omega
      unfold byteOf at hy
      have B0 := B.size
      clear OU
      rcases k4 with rfl | rfl | rfl | rfl
      · simp at hy
        try (have hy3 : v / 16777216 = y := by omega)
        have e1 : List.range 1 = List.range 0 ++ [0] := rfl
        go_wp2_with (at_builtin; refine wpList_append_own _ rfl _ _ 40 rfl w.heap.size 5 i5' (.int .u8 0) 1 1 Tryd.underlying40 hi5 hz50 hz51 hz52 rfl (by decide) _ _ _ rfl (HOU.out.alloc _) ⟨wr.heap.size, 0, none⟩ 1 1 [.int .u8 y] rfl rfl ?c1 ?c2 ?c3 ?c4 ?c5 ?_)
        try
          case c1 =>
            intro j u hj
            match j, hj with
            | 0, hj => simp at hj; subst hj; simp [Addr.add]
        case c2 => first | (intro u hu; simp at hu; subst hu; rfl) | rfl
        case c3 => unfold maxLen; omega
        case c4 => omega
        case c5 => first | omega | (simp; omega)
        intro v' w4 hown' hgrow hnil
        have R1 : Hid (w4.ownsRow w.heap.size 5 1 v' 1 ((List.range 1).map fun b => .int .u8 (byteOf v b))) := by
          show World.ownsRow _ _ _ _ _ _ _
          rw [e1, List.map_append]
          simp only [List.map_cons, List.map_nil]
          rw [HY.out]
          exact hown'
        have B4 : Hid (Below w.heap.size w w4) := (B.alloc B.size _).grown hgrow (by simp; omega) (fun g hg => (HOU.out.lt g hg).1)
        clear hown' hgrow hnil
        go_wp2
        go_roundw
        case rel => exact ⟨1, _, hkn, by go_num, rfl, R1.out, B4.out⟩
        case measure => simp [intOf]; omega
      · simp at hy
        try (have hy3 : v / 16777216 = y := by omega)
        have e1 : List.range 2 = List.range 1 ++ [1] := rfl
        go_wp2_with (at_builtin; refine wpList_append_own _ rfl _ _ 40 rfl w.heap.size 5 i5' (.int .u8 0) 1 1 Tryd.underlying40 hi5 hz50 hz51 hz52 rfl (by decide) _ _ _ rfl (HOU.out.alloc _) ⟨wr.heap.size, 0, none⟩ 1 1 [.int .u8 y] rfl rfl ?c1 ?c2 ?c3 ?c4 ?c5 ?_)
        try
          case c1 =>
            intro j u hj
            match j, hj with
            | 0, hj => simp at hj; subst hj; simp [Addr.add]
        case c2 => first | (intro u hu; simp at hu; subst hu; rfl) | rfl
        case c3 => unfold maxLen; omega
        case c4 => omega
        case c5 => first | omega | (simp; omega)
        intro v' w4 hown' hgrow hnil
        have R1 : Hid (w4.ownsRow w.heap.size 5 1 v' 2 ((List.range 2).map fun b => .int .u8 (byteOf v b))) := by
          show World.ownsRow _ _ _ _ _ _ _
          rw [e1, List.map_append]
          simp only [List.map_cons, List.map_nil]
          rw [HY.out]
          exact hown'
        have B4 : Hid (Below w.heap.size w w4) := (B.alloc B.size _).grown hgrow (by simp; omega) (fun g hg => (HOU.out.lt g hg).1)
        clear hown' hgrow hnil
        go_wp2
        go_roundw
        case rel => exact ⟨2, _, hkn, by go_num, rfl, R1.out, B4.out⟩
        case measure => simp [intOf]; omega
      · simp at hy
        try (have hy3 : v / 16777216 = y := by omega)
        have e1 : List.range 3 = List.range 2 ++ [2] := rfl
        go_wp2_with (at_builtin; refine wpList_append_own _ rfl _ _ 40 rfl w.heap.size 5 i5' (.int .u8 0) 1 1 Tryd.underlying40 hi5 hz50 hz51 hz52 rfl (by decide) _ _ _ rfl (HOU.out.alloc _) ⟨wr.heap.size, 0, none⟩ 1 1 [.int .u8 y] rfl rfl ?c1 ?c2 ?c3 ?c4 ?c5 ?_)
        try
          case c1 =>
            intro j u hj
            match j, hj with
            | 0, hj => simp at hj; subst hj; simp [Addr.add]
        case c2 => first | (intro u hu; simp at hu; subst hu; rfl) | rfl
        case c3 => unfold maxLen; omega
        case c4 => omega
        case c5 => first | omega | (simp; omega)
        intro v' w4 hown' hgrow hnil
        have R1 : Hid (w4.ownsRow w.heap.size 5 1 v' 3 ((List.range 3).map fun b => .int .u8 (byteOf v b))) := by
          show World.ownsRow _ _ _ _ _ _ _
          rw [e1, List.map_append]
          simp only [List.map_cons, List.map_nil]
          rw [HY.out]
          exact hown'
        have B4 : Hid (Below w.heap.size w w4) := (B.alloc B.size _).grown hgrow (by simp; omega) (fun g hg => (HOU.out.lt g hg).1)
        clear hown' hgrow hnil
        go_wp2
        go_roundw
        case rel => exact ⟨3, _, hkn, by go_num, rfl, R1.out, B4.out⟩
        case measure => simp [intOf]; omega
      · simp at hy
        try (have hy3 : v / 16777216 = y := by omega)
        have e1 : List.range 4 = List.range 3 ++ [3] := rfl
        go_wp2_with (at_builtin; refine wpList_append_own _ rfl _ _ 40 rfl w.heap.size 5 i5' (.int .u8 0) 1 1 Tryd.underlying40 hi5 hz50 hz51 hz52 rfl (by decide) _ _ _ rfl (HOU.out.alloc _) ⟨wr.heap.size, 0, none⟩ 1 1 [.int .u8 y] rfl rfl ?c1 ?c2 ?c3 ?c4 ?c5 ?_)
        try
          case c1 =>
            intro j u hj
            match j, hj with
            | 0, hj => simp at hj; subst hj; simp [Addr.add]
        case c2 => first | (intro u hu; simp at hu; subst hu; rfl) | rfl
        case c3 => unfold maxLen; omega
        case c4 => omega
        case c5 => first | omega | (simp; omega)
        intro v' w4 hown' hgrow hnil
        have R1 : Hid (w4.ownsRow w.heap.size 5 1 v' 4 ((List.range 4).map fun b => .int .u8 (byteOf v b))) := by
          show World.ownsRow _ _ _ _ _ _ _
          rw [e1, List.map_append]
          simp only [List.map_cons, List.map_nil]
          rw [HY.out]
          exact hown'
        have B4 : Hid (Below w.heap.size w w4) := (B.alloc B.size _).grown hgrow (by simp; omega) (fun g hg => (HOU.out.lt g hg).1)
        clear hown' hgrow hnil
        go_wp2
        go_roundw
        case rel => exact ⟨4, _, hkn, by go_num, rfl, R1.out, B4.out⟩
        case measure => simp [intOf]; omega
    · have hkk : k = W := by omega
      have i1 : ¬ (k : Int) < (W : Int) := by omega
      subst hkk
      obtain ⟨g, c, rfl, hg, _⟩ := World.ownsRow.form OU (by omega)
      have HO : Hid (Own wr g k (fun b => .int .u8 (byteOf v b))) := own_owned OU _ (fun i hi => by simp [hi])
      clear OU HOU
      go_wp2
      go_ret
      first | exact ⟨_, rfl, g, c, rfl, HO.out, hg, B⟩ | exact ⟨_, rfl, g, ⟨c, rfl⟩, HO.out, hg, B⟩
/-- The n lowest bytes of a number. -/
def lows (x : Int) (n : Nat) : List Int := (List.range n).map (byteOf x)
theorem lows_len (x : Int) (n : Nat) : (lows x n).length = n := by simp [lows]
theorem lows_succ (x : Int) (n : Nat) : lows x (n + 1) = lows x n ++ [byteOf x n] := by unfold lows; rw [List.range_succ, List.map_append]; rfl
def bl (L : List Int) : List Value := L.map (Value.int .u8)
theorem bl_app (a b : List Int) : bl (a ++ b) = bl a ++ bl b := List.map_append
/-- One row has grown: what is older, and not it, is as it was. -/
structure Gro (w : World) (v : Value) (w' : World) (v' : Value) : Prop where
  grown : w.grownBy w' v.ownBlock
  own : v'.ownBlock = v.ownBlock ∨ ∃ g, v'.ownBlock = some g ∧ w.heap.size ≤ g
theorem Gro.refl (w : World) (v : Value) : Gro w v w v := ⟨⟨rfl, rfl, rfl, Nat.le_refl _, fun _ _ _ => rfl⟩, Or.inl rfl⟩
theorem Gro.trans {a b c : World} {u v x : Value} (h : Gro a u b v) (k : Gro b v c x) : Gro a u c x := by
  refine ⟨⟨k.grown.os.trans h.grown.os, k.grown.tape.trans h.grown.tape, k.grown.output.trans h.grown.output, Nat.le_trans h.grown.size k.grown.size, fun i hi hn => ?_⟩, ?_⟩
  · refine (k.grown.block i (Nat.lt_of_lt_of_le hi h.grown.size) ?_).trans (h.grown.block i hi hn)
    rcases h.own with e | ⟨g, e, hg⟩
    · rw [e]; exact hn
    · rw [e]; intro q; injection q with q; omega
  · rcases k.own with e | ⟨g, e, hg⟩
    · rcases h.own with e' | ⟨g, e', hg⟩
      · exact Or.inl (e.trans e')
      · exact Or.inr ⟨g, e.trans e', hg⟩
    · exact Or.inr ⟨g, e, Nat.le_trans h.grown.size hg⟩
theorem Gro.next {a b c : World} {u v : Value} (h : Gro a u b v) (k : Below b.heap.size b c) : Gro a u c v := h.trans ⟨⟨k.os, k.tape, k.output, k.size, fun i hi _ => k.block i hi⟩, Or.inl rfl⟩
theorem Gro.alloc {a b : World} {u v : Value} (h : Gro a u b v) (o : Obj) : Gro a u (b.alloc o) v := h.next ((Below.refl _ _).alloc (Nat.le_refl _) _)
theorem Gro.below {B : Nat} {w w' : World} {v v' : Value} (h : Gro w v w' v') (hB : B ≤ w.heap.size) (hv : ∀ g, v.ownBlock = some g → B ≤ g) : Below B w w' :=
  ⟨h.grown.os, h.grown.tape, h.grown.output, h.grown.size, fun k hk => h.grown.block k (by omega) (fun e => by have := hv k e.symm; omega)⟩
theorem Gro.cell {w w' : World} {v v' : Value} (h : Gro w v w' v') {o i : Nat} {x : Value} (hc : w.cell? ⟨o, i, none⟩ = some x) (ho : some o ≠ v.ownBlock) : w'.cell? ⟨o, i, none⟩ = some x :=
  (World.cell?_of_block (w := w) (a := ⟨o, i, none⟩) (h.grown.block o (World.block_lt_of_cell? _ ⟨o, i, none⟩ hc) ho)).trans hc
/-- A row of bytes that a call is making. -/
def Rb (B : Nat) (w : World) (v : Value) (L : List Int) : Prop := w.ownsRow B 5 1 v L.length (bl L) ∧ B ≤ w.heap.size
theorem Rb.next {B : Nat} {w w' : World} {v : Value} {L : List Int} (h : Rb B w v L) (b : Below w.heap.size w w') : Rb B w' v L :=
  ⟨h.1.kept (row := none) ⟨b.os, b.tape, b.output, b.size, fun i hi _ => b.block i hi⟩ (by cases e : v.ownBlock <;> simp), Nat.le_trans h.2 b.size⟩
theorem Rb.alloc {B : Nat} {w : World} {v : Value} {L : List Int} (h : Rb B w v L) (o : Obj) : Rb B (w.alloc o) v L := h.next ((Below.refl _ _).alloc (Nat.le_refl _) _)
theorem Rb.lt {B : Nat} {w : World} {v : Value} {L : List Int} (h : Rb B w v L) : ∀ g, v.ownBlock = some g → B ≤ g ∧ g < w.heap.size := fun g hg => h.1.lt g hg
set_option maxRecDepth 100000 in
set_option maxHeartbeats 4000000 in
theorem low68 (B m : Nat) (L : List Int) (v : Value) (x : Int) (w : World) (h : Rb B w v L) (x0 : 0 ≤ x) (x1 : x < 4294967296) (hm : m ≤ 4) (hL : L.length ≤ 1000000) : Calls Tryd.prog 75 #[v, .int .i64 x, .int .i64 (m : Int)] w fun e w' => ∃ v', e = .returned v' ∧ Rb B w' v' (L ++ lows x m) ∧ Gro w v w' v' := by
  obtain ⟨i5, hi5, hz50, hz51, hz52⟩ := info_parts info5
  go_enter Tryd.func75, Tryd.ntmps75
  go_wp2
  go_loopw [0, 1, 2] (fun vv y nn wr => ∃ (k : Nat) (u : Value) (z : Int), k ≤ m ∧ nn = .int .i64 ((m : Int) - (k : Int)) ∧ u = vv ∧ y = .int .i64 z ∧ Hid (z = x / 256 ^ k) ∧ Hid (Rb B wr u (L ++ lows x k)) ∧ Hid (Gro w v wr u)) (fun _ _ nn _ => (intOf nn).toNat)
  case atStart => exact ⟨0, v, x, by omega, by simp, rfl, rfl, by show _ = _; simp, by show Rb _ _ _ _; simpa [lows] using h, Gro.refl _ _⟩
  case round =>
    obtain ⟨k, u, z, hk, rfl, rfl, rfl, HZ, HR, HG⟩ := hrel
    by_cases hkn : k < m
    · have i1 : 0 < (m : Int) - (k : Int) := by omega
      have z0 : 0 ≤ z := by rw [HZ.out]; exact Int.ediv_nonneg x0 (Int.le_of_lt (Int.pow_pos (by decide)))
      have z1 : z < 4294967296 := by
        rw [HZ.out]
        exact Int.lt_of_le_of_lt (Int.ediv_le_self _ x0) x1
      have HY : Hid (byteOf x k = z % 256) := by show _ = _; unfold byteOf; rw [HZ.out]
      have HN : Hid (z / 256 = x / 256 ^ (k + 1)) := by show _ = _; rw [HZ.out, Int.ediv_ediv_of_nonneg (Int.le_of_lt (Int.pow_pos (by decide)))]; rfl
      have y0 : 0 ≤ z % 256 := by omega
      have y1 : z % 256 < 256 := by omega
      clear HZ
      have hl := lows_len x k
      have HL : Hid ((L ++ lows x k).length = L.length + k) := by show _ = _; rw [List.length_append, hl]
      clear hl
      go_wp2_with (at_builtin; refine wpList_append_lies _ rfl _ _ 40 rfl B 5 i5 (.int .u8 0) 1 1 Tryd.underlying40 hi5 hz50 hz51 hz52 rfl (by decide) _ _ _ rfl (HR.out.1.alloc _) ⟨wr.heap.size, 0, none⟩ 1 1 [.int .u8 (z % 256)] rfl rfl ?c1 ?c2 (by decide) ?c3 ?c4 ?c5 _ rfl ?_)
      case c1 =>
        intro j u hj
        match j, hj with
        | 0, hj => simp at hj; subst hj; simp [Addr.add]
      case c2 => intro u hu; simp at hu; subst hu; rfl
      case c3 => rw [HL.out]; unfold maxLen; omega
      case c4 => rw [HL.out]; omega
      case c5 => have := HR.out.2; simp; omega
      intro g cap w1 hown hgrow hat hlt
      obtain ⟨q, hq⟩ : ∃ q, L.length + (lows x k).length + 1 = q := ⟨_, rfl⟩
      have e1 : q = (L ++ lows x (k + 1)).length := by rw [lows_succ, ← hq]; simp; omega
      rw [hq] at hown ⊢
      have R1 : Hid (Rb B w1 (.slice (some ⟨g, 0, none⟩) q cap) (L ++ lows x (k + 1))) := by
        refine ⟨?_, ?_⟩
        · rw [← e1, lows_succ, ← List.append_assoc, bl_app, HY.out]
          exact hown
        · have := hgrow.size; have := HR.out.2; simp at *; omega
      have R2 : Hid (Gro w v w1 (.slice (some ⟨g, 0, none⟩) q cap)) := by
        refine (HG.out.alloc _).trans ⟨hgrow, ?_⟩
        rcases hat with e | e
        · exact Or.inl e.symm
        · exact Or.inr ⟨g, rfl, by rw [e]; simp⟩
      clear hq
      clear e1 hown hgrow hat hlt
      go_wp2
      go_roundw
      case rel => exact ⟨k + 1, _, _, by omega, by go_num, rfl, rfl, HN, R1, R2⟩
      case measure => simp [intOf]; omega
    · have hkk : k = m := by omega
      subst hkk
      have i1 : (k : Int) - (k : Int) = 0 := by omega
      rw [i1]
      go_wp2
      go_ret
      exact ⟨_, rfl, HR.out, HG.out⟩
def crcF (f : Nat → Int) : Nat → Int
  | 0 => 0
  | k + 1 => (crcF f k * 31 + f k) % 65521
theorem crcF_range (f : Nat → Int) (k : Nat) : 0 ≤ crcF f k ∧ crcF f k < 65521 := by
  cases k with
  | zero => exact ⟨by show (0 : Int) ≤ 0; omega, by show (0 : Int) < 65521; omega⟩
  | succ k => unfold crcF; omega
set_option maxRecDepth 100000 in
set_option maxHeartbeats 2000000 in
theorem crc46 (g n cap : Nat) (f : Nat → Int) (w : World) (hn : n ≤ 1048576) (O : Own w g n (fun i => .int .u8 (f i))) (hf : ∀ i, i < n → 0 ≤ f i ∧ f i < 256) : Calls Tryd.prog 51 #[.slice (some ⟨g, 0, none⟩) n cap] w fun e w' => e = .returned (.int .u32 (crcF f n)) ∧ w' = w := by
  have HO : Hid (∀ i, i < n → w.cell? ⟨g, i, none⟩ = some (.int .u8 (f i))) := O.cell
  clear O
  go_enter Tryd.func51, Tryd.ntmps51
  go_wp2
  go_loop [3, 8] (fun c i => ∃ k : Nat, k ≤ n ∧ i = .int .i64 k ∧ c = .int .u32 (crcF f k)) (fun _ i => n - (intOf i).toNat)
  case atStart => exact ⟨0, by omega, rfl, rfl⟩
  case round =>
    obtain ⟨k, hk, rfl, rfl⟩ := hrel
    by_cases hkn : k < n
    · have i0 : (0 : Int) ≤ (k : Int) := by omega
      have i1 : (k : Int) < (n : Int) := by omega
      have cc := HO.out k hkn
      have f0 := (hf k hkn).1
      have f1 := (hf k hkn).2
      have HC : Hid (crcF f (k + 1) = (crcF f k * 31 + f k) % 65521) := rfl
      obtain ⟨c0, c1⟩ := crcF_range f k
      generalize crcF f k = c at c0 c1 HC ⊢
      generalize f k = b at cc f0 f1 HC
      go_wp2
      go_round
      case rel => exact ⟨k + 1, by omega, by go_num, by rw [HC.out]⟩
      case measure => simp [intOf]; omega
    · have hkk : k = n := by omega
      subst hkk
      go_wp2
      go_ret
      exact ⟨rfl, rfl⟩
set_option maxRecDepth 100000 in
set_option maxHeartbeats 2000000 in
theorem crc69 (g n cap : Nat) (f : Nat → Int) (w : World) (hn : n ≤ 1048576) (O : Own w g n (fun i => .int .u8 (f i))) (hf : ∀ i, i < n → 0 ≤ f i ∧ f i < 256) : Calls Tryd.prog 76 #[.slice (some ⟨g, 0, none⟩) n cap] w fun e w' => e = .returned (.int .i64 (crcF f n)) ∧ w' = w := by
  have HO : Hid (∀ i, i < n → w.cell? ⟨g, i, none⟩ = some (.int .u8 (f i))) := O.cell
  clear O
  go_enter Tryd.func76, Tryd.ntmps76
  go_wp2
  go_loop [3, 8] (fun c i => ∃ k : Nat, k ≤ n ∧ i = .int .i64 k ∧ c = .int .i64 (crcF f k)) (fun _ i => n - (intOf i).toNat)
  case atStart => exact ⟨0, by omega, rfl, rfl⟩
  case round =>
    obtain ⟨k, hk, rfl, rfl⟩ := hrel
    by_cases hkn : k < n
    · have i0 : (0 : Int) ≤ (k : Int) := by omega
      have i1 : (k : Int) < (n : Int) := by omega
      have cc := HO.out k hkn
      have f0 := (hf k hkn).1
      have f1 := (hf k hkn).2
      have HC : Hid (crcF f (k + 1) = (crcF f k * 31 + f k) % 65521) := rfl
      obtain ⟨c0, c1⟩ := crcF_range f k
      generalize crcF f k = c at c0 c1 HC ⊢
      generalize f k = b at cc f0 f1 HC
      go_wp2
      go_round
      case rel => exact ⟨k + 1, by omega, by go_num, by rw [HC.out]⟩
      case measure => simp [intOf]; omega
    · have hkk : k = n := by omega
      subst hkk
      go_wp2
      go_ret
      exact ⟨rfl, rfl⟩
set_option maxRecDepth 100000 in
set_option maxHeartbeats 2000000 in
theorem width45 (f : Nat) (hf : f < 5) (w : World) : Calls Tryd.prog 50 #[.int .i64 (f : Int)] w fun e w' => e = .returned (.int .i64 (if f = 4 then 4 else 2)) ∧ w' = w := by
  rcases (by omega : f = 0 ∨ f = 1 ∨ f = 2 ∨ f = 3 ∨ f = 4) with rfl | rfl | rfl | rfl | rfl
  · go_enter Tryd.func50, Tryd.ntmps50
    go_wp2
    go_ret
    exact ⟨rfl, rfl⟩
  · go_enter Tryd.func50, Tryd.ntmps50
    go_wp2
    go_ret
    exact ⟨rfl, rfl⟩
  · go_enter Tryd.func50, Tryd.ntmps50
    go_wp2
    go_ret
    exact ⟨rfl, rfl⟩
  · go_enter Tryd.func50, Tryd.ntmps50
    go_wp2
    go_ret
    exact ⟨rfl, rfl⟩
  · go_enter Tryd.func50, Tryd.ntmps50
    go_wp2
    go_ret
    exact ⟨rfl, rfl⟩
end Go.Proofs.YtablacgmedkgjaaDoor
