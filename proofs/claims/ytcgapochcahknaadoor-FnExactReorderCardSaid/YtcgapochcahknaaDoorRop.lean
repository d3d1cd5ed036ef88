/- The program's operandsOf: the registers that an instruction reads, in the order of its fields. -/
import Derived.Test.YtcgapochcahknaaDoorRds
import Derived.Test.YtcgapochcahknaaDoorGc2
import Derived.Deep.RegionHeld3
namespace Go.Proofs.YtcgapochcahknaaDoor
open Go.ChangeShapes Go.WideShapes Go.ChangeAt Go.RowKit
set_option linter.unusedVariables false
theorem ints_new (w : World) (L : List Int) : Own (w.alloc (.cells (L.map (Value.int .i64)).toArray 3)) w.heap.size L.length (fun i => .int .i64 (L.getD i 0)) := by
  refine ⟨fun i hi => ?_, fun i => ?_, by rw [World.size_alloc]; omega⟩
  · rw [World.cell?_alloc_mark]
    simp [List.getD, hi]
  · rw [World.frozen?_alloc_mark]
    simp
theorem ints_at (w : World) (H : Nat) (hH : w.heap.size = H) (L : List Int) : Own (w.alloc (.cells (L.map (Value.int .i64)).toArray 3)) H L.length (fun i => .int .i64 (L.getD i 0)) := by subst hH; exact ints_new w L
theorem Own.drew {w : World} {o n : Nat} {f : Nat → Value} (h : Own w o n f) : Own w.drew o n f := ⟨h.cell, h.free, h.hi⟩
theorem Kp.alloc {W v : World} (h : Kp W v) (o : Obj) : Kp W (v.alloc o) := h.next ((Below.refl _ _).alloc (Nat.le_refl _) _)
/-- The row of a call's operands, made anew behind W. -/
def Row3 (W v : World) (a b c : Int) (g : Nat) : Prop := W.heap.size ≤ g ∧ Own v g 3 (fun i => .int .i64 ([a, b, c].getD i 0))
theorem Row3.next {W v v' : World} {a b c : Int} {g : Nat} (h : Row3 W v a b c g) (k : Below v.heap.size v v') : Row3 W v' a b c g := ⟨h.1, h.2.next k⟩
theorem Row3.new {W v : World} (a b c : Int) (h : Kp W v) : Row3 W (v.alloc (.cells #[.int .i64 a, .int .i64 b, .int .i64 c] 3)) a b c v.heap.size := ⟨h.below.size, ints_new v [a, b, c]⟩
theorem Row3.drew {W v : World} {a b c : Int} {g : Nat} (h : Row3 W v a b c g) : Row3 W v.drew a b c g := ⟨h.1, h.2.drew⟩
/-- What operandsOf leaves: a row of its own, made behind B. -/
def IOwn (B : Nat) (w : World) (v : Value) (L : List Int) : Prop := (L = [] ∧ v = .slice none 0 0) ∨ ∃ g c, v = .slice (some ⟨g, 0, none⟩) L.length c ∧ L.length ≤ c ∧ B ≤ g ∧ Own w g L.length (fun i => .int .i64 (L.getD i 0))
theorem IOwn.row {B : Nat} {w : World} {v : Value} {L : List Int} (h : IOwn B w v L) : IRow w v L := by
  rcases h with h | ⟨g, c, h1, h2, _, h3⟩
  · exact Or.inl h
  · exact Or.inr ⟨g, c, h1, h2, h3⟩
theorem IOwn.of3 {B : Nat} {W w : World} {a b c R : Int} {g : Nat} {L : List Int} (h : Row3 W w a b c g) (hB : B ≤ W.heap.size) (hL : [a, b, c].take R.toNat = L) (r0 : 1 ≤ R) (r3 : R ≤ 3) : IOwn B w (.slice (some ⟨g, 0, none⟩) R.toNat 3) L := by
  have hn : L.length = R.toNat := by rw [← hL]; simp; omega
  refine Or.inr ⟨g, 3, by rw [hn], by omega, Nat.le_trans hB h.1, h.2.mono (by omega) fun i hi => ?_⟩
  rw [← hL]
  have : i < R.toNat := by omega
  congr 1
  simp [List.getD, this]
set_option maxRecDepth 100000 in
set_option maxHeartbeats 4000000 in
theorem operands38 (o d a b c x : Int) (w : World) (G : Forms w) (x0 : 0 ≤ x) (x1 : x < 4294967296) (ho : 1 ≤ o ∧ o ≤ 13) (h4 : o = 4 → 1 ≤ ar (calW x)) : Calls Tryd.prog 95 #[.agg #[.int .i64 o, .int .i64 d, .int .i64 a, .int .i64 b, .int .i64 c, .int .u32 x]] w fun e w' => ∃ v, e = .returned v ∧ IOwn w.heap.size w' v (opsL o a b c x) ∧ Below w.heap.size w w' := by
  have h65 : ∀ v, Forms v → Calls Tryd.prog 102 #[.int .u32 x] v fun e w' => e = .returned (.string (calW x)) ∧ Below v.heap.size v w' := fun v g => call65 x v g x0 x1
  have h64 : ∀ v, Forms v → Calls Tryd.prog 101 #[.string (calW x)] v fun e w' => e = .returned (.int .i64 (ar (calW x))) ∧ Below v.heap.size v w' := fun v g => arity64 (calW x) v g
  have HLN := opsL_len o a b c x
  obtain ⟨L, hL⟩ : ∃ L, opsL o a b c x = L := ⟨_, rfl⟩
  have HL : Hid (opsL o a b c x = L) := hL
  rw [hL] at HLN ⊢
  clear hL x0 x1
  go_enter Tryd.func95, Tryd.ntmps95
  have HOP := op_in o ho
  clear ho
  rcases HOP with rfl | rfl | rfl | rfl | rfl | rfl | rfl | rfl | rfl | rfl | rfl | rfl | rfl
  · obtain rfl : [] = L := HL.out
    clear h4 h65 h64 HLN
    go_wp2
    go_ret
    exact ⟨_, rfl, Or.inl ⟨rfl, rfl⟩, (Below.refl _ _).alloc (Nat.le_refl _) _⟩
  · obtain rfl : [a] = L := HL.out
    clear h4 h65 h64 HLN
    go_wp2
    go_ret
    exact ⟨_, rfl, Or.inr ⟨_, 1, rfl, by simp, by simp, ints_at _ _ (by simp) [a]⟩, ((Below.refl _ _).alloc (Nat.le_refl _) _).alloc (by simp) _⟩
  · obtain rfl : [a, b] = L := HL.out
    clear h4 h65 h64 HLN
    go_wp2
    go_ret
    exact ⟨_, rfl, Or.inr ⟨_, 2, rfl, by simp, by simp, ints_at _ _ (by simp) [a, b]⟩, ((Below.refl _ _).alloc (Nat.le_refl _) _).alloc (by simp) _⟩
  · have hr := ar_le (calW x)
    have hr1 := h4 rfl
    have HL4 : Hid ([a, b, c].take (ar (calW x)).toNat = L) := HL.out
    generalize calW x = cw at h64 h65 hr hr1 HL4
    generalize ar cw = R at h64 hr hr1 HL4
    have HR : Hid (1 ≤ R ∧ R ≤ 3) := ⟨hr1, hr.2⟩
    have r0 : 0 ≤ R := by omega
    have r3 : R ≤ 3 := hr.2
    have r4 : R.toNat ≤ 3 := by omega
    have r5 : ¬ R < 0 := by omega
    have r6 : ¬ 3 < R := by omega
    have r7 : ¬ 3 < R.toNat := by omega
    clear hr hr1 h4 HL HLN
    have BW : Below w.heap.size w (w.alloc (.cells #[.int .i64 4, .int .i64 d, .int .i64 a, .int .i64 b, .int .i64 c, .int .u32 x] 35)) := (Below.refl _ _).alloc (Nat.le_refl _) _
    have KW : Kp (w.alloc (.cells #[.int .i64 4, .int .i64 d, .int .i64 a, .int .i64 b, .int .i64 c, .int .u32 x] 35)) (w.alloc (.cells #[.int .i64 4, .int .i64 d, .int .i64 a, .int .i64 b, .int .i64 c, .int .u32 x] 35)) := ⟨Below.refl _ _, G.below BW⟩
    have c2 : (w.alloc (.cells #[.int .i64 4, .int .i64 d, .int .i64 a, .int .i64 b, .int .i64 c, .int .u32 x] 35)).cell? ⟨w.heap.size, 2, none⟩ = some (.int .i64 a) := by simp
    have c3 : (w.alloc (.cells #[.int .i64 4, .int .i64 d, .int .i64 a, .int .i64 b, .int .i64 c, .int .u32 x] 35)).cell? ⟨w.heap.size, 3, none⟩ = some (.int .i64 b) := by simp
    have c4 : (w.alloc (.cells #[.int .i64 4, .int .i64 d, .int .i64 a, .int .i64 b, .int .i64 c, .int .u32 x] 35)).cell? ⟨w.heap.size, 4, none⟩ = some (.int .i64 c) := by simp
    have c5 : (w.alloc (.cells #[.int .i64 4, .int .i64 d, .int .i64 a, .int .i64 b, .int .i64 c, .int .u32 x] 35)).cell? ⟨w.heap.size, 5, none⟩ = some (.int .u32 x) := by simp
    have HB : Hid (∀ v, Below (w.alloc (.cells #[.int .i64 4, .int .i64 d, .int .i64 a, .int .i64 b, .int .i64 c, .int .u32 x] 35)).heap.size (w.alloc (.cells #[.int .i64 4, .int .i64 d, .int .i64 a, .int .i64 b, .int .i64 c, .int .u32 x] 35)) v → Below w.heap.size w v) := fun v k => BW.trans (k.mono BW.size)
    have HS : Hid (w.heap.size ≤ (w.alloc (.cells #[.int .i64 4, .int .i64 d, .int .i64 a, .int .i64 b, .int .i64 c, .int .u32 x] 35)).heap.size) := BW.size
    clear BW G
    go_upto_region 12 with fail
    obtain ⟨q, hq⟩ : ∃ q, w.heap.size = q := ⟨_, rfl⟩
    obtain ⟨W, hW⟩ : ∃ W, (w.alloc (.cells #[.int .i64 4, .int .i64 d, .int .i64 a, .int .i64 b, .int .i64 c, .int .u32 x] 35)) = W := ⟨_, rfl⟩
    rw [hW] at KW c5 c2 c3 c4 HB HS ⊢
    rw [hq] at c5 c2 c3 c4 ⊢
    have c2d : W.drew.cell? ⟨q, 2, none⟩ = some (.int .i64 a) := c2
    have c3d : W.drew.cell? ⟨q, 3, none⟩ = some (.int .i64 b) := c3
    have c4d : W.drew.cell? ⟨q, 4, none⟩ = some (.int .i64 c) := c4
    have c5d : W.drew.cell? ⟨q, 5, none⟩ = some (.int .u32 x) := c5
    have KWd := KW.drew
    go_region_held3 (fun v => v.cell? ⟨q, 2, none⟩ = some (.int .i64 a) ∧ v.cell? ⟨q, 3, none⟩ = some (.int .i64 b) ∧ v.cell? ⟨q, 4, none⟩ = some (.int .i64 c) ∧ v.cell? ⟨q, 5, none⟩ = some (.int .u32 x) ∧ Kp W v) (first | with_reducible exact ⟨s42, s43, s44, s45, k4⟩ | with_reducible exact ⟨s52, s53, s54, s55, k5⟩ | with_reducible exact ⟨c2d, c3d, c4d, c5d, KWd⟩ | (refine ⟨?_, ?_, ?_, ?_, ?_⟩ <;> first | with_reducible assumption | (go_keep; done) | exact KWd.alloc _ | exact (KW.alloc _).drew | exact k5.alloc _ | exact k4.alloc _) | (go_keep; done)) (first | (go_at_call 102; (have hh := ‹World.cell? _ ⟨q, 2, none⟩ = some (.int .i64 a) ∧ _›); refine (h65 _ hh.2.2.2.2.forms).mono ?_; rintro e w5 ⟨rfl, b5⟩; (have s52 := (b5.cell (p := ⟨q, 2, none⟩) (World.block_lt_of_cell? _ ⟨q, 2, none⟩ hh.1)).trans hh.1); (have s53 := (b5.cell (p := ⟨q, 3, none⟩) (World.block_lt_of_cell? _ ⟨q, 3, none⟩ hh.2.1)).trans hh.2.1); (have s54 := (b5.cell (p := ⟨q, 4, none⟩) (World.block_lt_of_cell? _ ⟨q, 4, none⟩ hh.2.2.1)).trans hh.2.2.1); (have s55 := (b5.cell (p := ⟨q, 5, none⟩) (World.block_lt_of_cell? _ ⟨q, 5, none⟩ hh.2.2.2.1)).trans hh.2.2.2.1); (have k5 := hh.2.2.2.2.next b5); (try (have g5 := (Row3.new a b c KWd).next b5)); (try (have g5 := (Row3.new a b c KW).drew.next b5)); (try (have g5 := (Row3.new a b c k5).next b5)); (try (have g5 := g5.next b5))) | (go_at_call 101; (have hh := ‹World.cell? _ ⟨q, 2, none⟩ = some (.int .i64 a) ∧ _›); refine (h64 _ hh.2.2.2.2.forms).mono ?_; rintro e w4 ⟨rfl, b4⟩; (have s42 := (b4.cell (p := ⟨q, 2, none⟩) (World.block_lt_of_cell? _ ⟨q, 2, none⟩ hh.1)).trans hh.1); (have s43 := (b4.cell (p := ⟨q, 3, none⟩) (World.block_lt_of_cell? _ ⟨q, 3, none⟩ hh.2.1)).trans hh.2.1); (have s44 := (b4.cell (p := ⟨q, 4, none⟩) (World.block_lt_of_cell? _ ⟨q, 4, none⟩ hh.2.2.1)).trans hh.2.2.1); (have s45 := (b4.cell (p := ⟨q, 5, none⟩) (World.block_lt_of_cell? _ ⟨q, 5, none⟩ hh.2.2.2.1)).trans hh.2.2.2.1); (have k4 := hh.2.2.2.2.next b4); (try (have g4 := (Row3.new a b c KWd).next b4)); (try (have g4 := (Row3.new a b c KW).drew.next b4)); (try (have g4 := (Row3.new a b c k5).next b4)); (try (have g4 := g5.next b4))))

    all_goals
      go_wp2_with fail
      go_ret
      first
        | exact ⟨_, rfl, IOwn.of3 g4 HS.out HL4.out HR.out.1 HR.out.2, HB.out _ k4.below⟩
        | exact ⟨_, rfl, IOwn.of3 (Row3.new a b c k4) HS.out HL4.out HR.out.1 HR.out.2, HB.out _ (k4.alloc _).below⟩
  · obtain rfl : [] = L := HL.out
    clear h4 h65 h64 HLN
    go_wp2
    go_ret
    exact ⟨_, rfl, Or.inl ⟨rfl, rfl⟩, (Below.refl _ _).alloc (Nat.le_refl _) _⟩
  · obtain rfl : [a] = L := HL.out
    clear h4 h65 h64 HLN
    go_wp2
    go_ret
    exact ⟨_, rfl, Or.inr ⟨_, 1, rfl, by simp, by simp, ints_at _ _ (by simp) [a]⟩, ((Below.refl _ _).alloc (Nat.le_refl _) _).alloc (by simp) _⟩
  · obtain rfl : [a, b] = L := HL.out
    clear h4 h65 h64 HLN
    go_wp2
    go_ret
    exact ⟨_, rfl, Or.inr ⟨_, 2, rfl, by simp, by simp, ints_at _ _ (by simp) [a, b]⟩, ((Below.refl _ _).alloc (Nat.le_refl _) _).alloc (by simp) _⟩
  · obtain rfl : [] = L := HL.out
    clear h4 h65 h64 HLN
    go_wp2
    go_ret
    exact ⟨_, rfl, Or.inl ⟨rfl, rfl⟩, (Below.refl _ _).alloc (Nat.le_refl _) _⟩
  · obtain rfl : [a] = L := HL.out
    clear h4 h65 h64 HLN
    go_wp2
    go_ret
    exact ⟨_, rfl, Or.inr ⟨_, 1, rfl, by simp, by simp, ints_at _ _ (by simp) [a]⟩, ((Below.refl _ _).alloc (Nat.le_refl _) _).alloc (by simp) _⟩
  · obtain rfl : [] = L := HL.out
    clear h4 h65 h64 HLN
    go_wp2
    go_ret
    exact ⟨_, rfl, Or.inl ⟨rfl, rfl⟩, (Below.refl _ _).alloc (Nat.le_refl _) _⟩
  · obtain rfl : [] = L := HL.out
    clear h4 h65 h64 HLN
    go_wp2
    go_ret
    exact ⟨_, rfl, Or.inl ⟨rfl, rfl⟩, (Below.refl _ _).alloc (Nat.le_refl _) _⟩
  · obtain rfl : [a] = L := HL.out
    clear h4 h65 h64 HLN
    go_wp2
    go_ret
    exact ⟨_, rfl, Or.inr ⟨_, 1, rfl, by simp, by simp, ints_at _ _ (by simp) [a]⟩, ((Below.refl _ _).alloc (Nat.le_refl _) _).alloc (by simp) _⟩
  · obtain rfl : [a] = L := HL.out
    clear h4 h65 h64 HLN
    go_wp2
    go_ret
    exact ⟨_, rfl, Or.inr ⟨_, 1, rfl, by simp, by simp, ints_at _ _ (by simp) [a]⟩, ((Below.refl _ _).alloc (Nat.le_refl _) _).alloc (by simp) _⟩
end Go.Proofs.YtcgapochcahknaaDoor
