/- What l14Needs, l14Flow, l14Wait and the others answer of instructions as said. -/
import Derived.Test.YtcgapochcahknaaDoorLat
import Derived.Test.YtcgapochcahknaaDoorRdt
import Derived.Test.YtcgapochcahknaaDoorArs
import Derived.Test.YtcgapochcahknaaDoorWrm
namespace Go.Proofs.YtcgapochcahknaaDoor
open Go.ChangeShapes Go.WideShapes Go.ChangeAt Go.RowKit
set_option linter.unusedVariables false
/-- An instruction as said, of any code. -/
def GI (o d a b c x : Int) : Prop := (0 ≤ x ∧ x < 4294967296) ∧ goodI o d a b c x 600 = true
theorem GI.op {o d a b c x : Int} (h : GI o d a b c x) : 1 ≤ o ∧ o ≤ 13 := good_op h.2
theorem GI.h3 {o d a b c x : Int} (h : GI o d a b c x) : o = 3 → x / 4 < 30 := good_sgn h.1.1 h.1.2 h.2
theorem GI.dn {o d a b c x : Int} (h : GI o d a b c x) : 0 ≤ d := by
  have h2 := h.2
  simp only [goodI, okF, Bool.and_eq_true, Bool.true_and, val, inB, decide_eq_true_eq] at h2
  exact h2.1.1.1.1.1.1
theorem GI.h4 {o d a b c x : Int} (h : GI o d a b c x) : o = 4 → 1 ≤ ar (calW x) := fun e => by
  subst e
  have h2 := h.2
  rw [goodI_4 d a b c x 600 h.1.1 h.1.2] at h2
  simp only [Bool.and_eq_true, callOk, decide_eq_true_eq] at h2
  exact h2.2.1.1.1
def flI (o d o' a' b' c' x' : Int) : Bool := nmd o 0 && decide (d ∈ opsL o' a' b' c' x')
def mmI (o : Int) : Bool := o == 6 || o == 7
def meI (o x o' x' : Int) : Bool := ((mmI o && mmI o') && x == x') && (o == 7 || o' == 7)
def ndI (o d a b c x o' d' a' b' c' x' : Int) : Bool := flI o d o' a' b' c' x' || ((nmd o' 0 && (decide (d' ∈ opsL o a b c x) || (nmd o 0 && d == d'))) || meI o x o' x')
theorem ndI_sym (o d a b c x o' d' a' b' c' x' : Int) : ndI o d a b c x o' d' a' b' c' x' = ndI o' d' a' b' c' x' o d a b c x := by
  have e1 : (x == x') = (x' == x) := by rw [Bool.eq_iff_iff]; simp; constructor <;> intro h <;> exact h.symm
  have e2 : (d == d') = (d' == d) := by rw [Bool.eq_iff_iff]; simp; constructor <;> intro h <;> exact h.symm
  unfold ndI flI meI
  rw [e1, e2]
  cases nmd o 0 <;> cases nmd o' 0 <;> cases decide (d ∈ opsL o' a' b' c' x') <;> cases decide (d' ∈ opsL o a b c x) <;> cases mmI o <;> cases mmI o' <;> cases (x' == x) <;> cases (o == 7) <;> cases (o' == 7) <;> cases (d' == d) <;> rfl
theorem fl_nd {o d a b c x o' d' a' b' c' x' : Int} (h : flI o d o' a' b' c' x' = true) : ndI o d a b c x o' d' a' b' c' x' = true := by unfold ndI; rw [h]; rfl
def waI (o d x o' a' b' c' x' : Int) : Int := if flI o d o' a' b' c' x' then latV o x else 1
/-- None of IJump, IZero, IBarrier, IEnd. -/
def freeB (o : Int) : Bool := !(o == 8) && (!(o == 9) && (!(o == 10) && !(o == 11)))
set_option maxRecDepth 100000 in
theorem mfree (o : Int) (w : World) : Calls Tryd.prog 78 #[.int .i64 o] w fun e w' => e = .returned (.bool (freeB o)) ∧ w' = w := by
  unfold freeB
  by_cases e8 : o = 8
  · subst e8
    go_enter Tryd.func78, Tryd.ntmps78
    go_wp2
    go_ret
    exact ⟨rfl, rfl⟩
  have b8 : (o == 8) = false := by simp [e8]
  by_cases e9 : o = 9
  · subst e9
    go_enter Tryd.func78, Tryd.ntmps78
    go_wp2
    go_ret
    exact ⟨rfl, rfl⟩
  have b9 : (o == 9) = false := by simp [e9]
  by_cases e10 : o = 10
  · subst e10
    go_enter Tryd.func78, Tryd.ntmps78
    go_wp2
    go_ret
    exact ⟨rfl, rfl⟩
  have b10 : (o == 10) = false := by simp [e10]
  by_cases e11 : o = 11
  · subst e11
    go_enter Tryd.func78, Tryd.ntmps78
    go_wp2
    go_ret
    exact ⟨rfl, rfl⟩
  have b11 : (o == 11) = false := by simp [e11]
  rw [b8, b9, b10, b11]
  have n8 : (o != 8) = true := by simp [e8]
  have n9 : (o != 9) = true := by simp [e9]
  have n10 : (o != 10) = true := by simp [e10]
  have n11 : (o != 11) = true := by simp [e11]
  clear e8 e9 e10 e11
  go_enter Tryd.func78, Tryd.ntmps78
  go_wp2
  go_ret
  exact ⟨rfl, rfl⟩
set_option maxRecDepth 100000 in
theorem mmem (o d a b c x : Int) (w : World) : Calls Tryd.prog 107 #[.agg #[.int .i64 o, .int .i64 d, .int .i64 a, .int .i64 b, .int .i64 c, .int .u32 x]] w fun e w' => e = .returned (.bool (mmI o)) ∧ Below w.heap.size w w' := by
  have BW : Below w.heap.size w (w.alloc (.cells #[.int .i64 o, .int .i64 d, .int .i64 a, .int .i64 b, .int .i64 c, .int .u32 x] 35)) := (Below.refl _ _).alloc (Nat.le_refl _) _
  unfold mmI
  cases b6 : (o == 6)
  all_goals
    cases b7 : (o == 7)
    all_goals
      go_enter Tryd.func107, Tryd.ntmps107
      go_wp2
      go_ret
      exact ⟨rfl, BW⟩
set_option maxRecDepth 100000 in
set_option maxHeartbeats 2000000 in
theorem mreads (o d a b c x r : Int) (w : World) (h : GI o d a b c x) : Calls Tryd.prog 106 #[.agg #[.int .i64 o, .int .i64 d, .int .i64 a, .int .i64 b, .int .i64 c, .int .u32 x], .int .i64 r] w fun e w' => e = .returned (.bool (decide (r ∈ opsL o a b c x))) ∧ Below w.heap.size w w' := by
  have BW : Below w.heap.size w (w.alloc (.cells #[.int .i64 o, .int .i64 d, .int .i64 a, .int .i64 b, .int .i64 c, .int .u32 x] 35)) := (Below.refl _ _).alloc (Nat.le_refl _) _
  have h116 := fun v => reads39 o d a b c x v h.1.1 h.1.2 h.op h.h4
  have hl : (srt (opsL o a b c x)).length ≤ 3 := Nat.le_trans (srt_len _) (opsL_len o a b c x)
  have HM : Hid (decide (r ∈ opsL o a b c x) = decide (r ∈ srt (opsL o a b c x))) := by show _ = _; rw [decide_eq_decide, srt_mem]
  rw [HM.out]
  generalize srt (opsL o a b c x) = L at h116 hl
  clear HM h
  go_enter Tryd.func106, Tryd.ntmps106
  go_wp2_with (go_at_call 116; refine (h116 _).mono ?_; rintro e w1 ⟨v1, rfl, R1, B1⟩; (obtain ⟨ad, cp, rfl, hc⟩ := R1.own.arow))
  have HL := Hid.mk hc
  have B2 : Hid (Below w.heap.size w w1) := BW.trans (B1.mono BW.size)
  obtain ⟨n, hn2⟩ : ∃ n, L.length = n := ⟨_, rfl⟩
  have HN : Hid (L.length = n) := hn2
  rw [hn2] at hl ⊢
  clear hn2 hc R1 B1 BW h116
  go_loop [10] (fun i => ∃ k : Nat, k ≤ n ∧ i = .int .i64 k ∧ Hid (∀ j, j < k → L.getD j 0 ≠ r)) (fun i => n - (intOf i).toNat)
  case atStart => exact ⟨0, Nat.zero_le _, rfl, fun j hj => by omega⟩
  case round =>
    obtain ⟨k, hk, rfl, HK⟩ := hrel
    by_cases hkn : k < n
    · have i1 : (k : Int) < (n : Int) := by omega
      have i0 : (0 : Int) ≤ (k : Int) := by omega
      have hkl : k < L.length := by rw [HN.out]; exact hkn
      obtain ⟨g, oo, rfl, ck⟩ := HL.out k hkl
      obtain ⟨y, hy⟩ : ∃ y, L.getD k 0 = y := ⟨_, rfl⟩
      have HY : Hid (L.getD k 0 = y) := hy
      rw [hy] at ck
      clear hy
      by_cases e : y = r
      · have he : (y == r) = true := by simp [e]
        have HM : Hid (decide (r ∈ L) = true) := by
          have : r ∈ L := by rw [← e, ← HY.out]; simp [List.getD, hkl]
          exact decide_eq_true this
        clear e
        go_wp2
        go_ret
        exact ⟨by rw [HM.out]; rfl, B2.out⟩
      · have he : (y == r) = false := by simp [e]
        have HKN : Hid (∀ j, j < k + 1 → L.getD j 0 ≠ r) := fun j hj => by
          by_cases q : j = k
          · subst q; rw [HY.out]; exact e
          · exact HK.out j (by omega)
        clear e HK
        go_wp2
        go_round
        case rel => exact ⟨k + 1, by omega, by go_num, HKN⟩
        case measure => simp [intOf]; omega
    · obtain rfl : n = k := by omega
      have i1 : ¬ (n : Int) < (n : Int) := by omega
      have HM : Hid (decide (r ∈ L) = false) := by
        have : ¬ r ∈ L := fun h => by
          obtain ⟨j, hj, h2⟩ := List.getElem_of_mem h
          exact HK.out j (by rw [← HN.out]; exact hj) (by simp [List.getD, hj, h2])
        exact decide_eq_false this
      go_wp2
      go_ret
      exact ⟨by rw [HM.out]; rfl, B2.out⟩
theorem ins_blk2 (w : World) (o d a b c x o' d' a' b' c' x' : Int) (v : World) (k : Below ((w.alloc (.cells #[.int .i64 o, .int .i64 d, .int .i64 a, .int .i64 b, .int .i64 c, .int .u32 x] 35)).alloc (.cells #[.int .i64 o', .int .i64 d', .int .i64 a', .int .i64 b', .int .i64 c', .int .u32 x'] 35)).heap.size ((w.alloc (.cells #[.int .i64 o, .int .i64 d, .int .i64 a, .int .i64 b, .int .i64 c, .int .u32 x] 35)).alloc (.cells #[.int .i64 o', .int .i64 d', .int .i64 a', .int .i64 b', .int .i64 c', .int .u32 x'] 35)) v) : ((v.cell? ⟨w.heap.size, 0, none⟩ = some (.int .i64 o) ∧ v.cell? ⟨w.heap.size, 1, none⟩ = some (.int .i64 d) ∧ v.cell? ⟨w.heap.size, 2, none⟩ = some (.int .i64 a) ∧ v.cell? ⟨w.heap.size, 3, none⟩ = some (.int .i64 b) ∧ v.cell? ⟨w.heap.size, 4, none⟩ = some (.int .i64 c) ∧ v.cell? ⟨w.heap.size, 5, none⟩ = some (.int .u32 x)) ∧ (v.cell? ⟨w.heap.size + 1, 0, none⟩ = some (.int .i64 o') ∧ v.cell? ⟨w.heap.size + 1, 1, none⟩ = some (.int .i64 d') ∧ v.cell? ⟨w.heap.size + 1, 2, none⟩ = some (.int .i64 a') ∧ v.cell? ⟨w.heap.size + 1, 3, none⟩ = some (.int .i64 b') ∧ v.cell? ⟨w.heap.size + 1, 4, none⟩ = some (.int .i64 c') ∧ v.cell? ⟨w.heap.size + 1, 5, none⟩ = some (.int .u32 x'))) ∧ Below w.heap.size w v := by
  have q1 : w.heap.size < ((w.alloc (.cells #[.int .i64 o, .int .i64 d, .int .i64 a, .int .i64 b, .int .i64 c, .int .u32 x] 35)).alloc (.cells #[.int .i64 o', .int .i64 d', .int .i64 a', .int .i64 b', .int .i64 c', .int .u32 x'] 35)).heap.size := by simp; omega
  have q2 : w.heap.size + 1 < ((w.alloc (.cells #[.int .i64 o, .int .i64 d, .int .i64 a, .int .i64 b, .int .i64 c, .int .u32 x] 35)).alloc (.cells #[.int .i64 o', .int .i64 d', .int .i64 a', .int .i64 b', .int .i64 c', .int .u32 x'] 35)).heap.size := by simp
  have BW : Below w.heap.size w ((w.alloc (.cells #[.int .i64 o, .int .i64 d, .int .i64 a, .int .i64 b, .int .i64 c, .int .u32 x] 35)).alloc (.cells #[.int .i64 o', .int .i64 d', .int .i64 a', .int .i64 b', .int .i64 c', .int .u32 x'] 35)) := ((Below.refl _ _).alloc (Nat.le_refl _) _).alloc (by simp) _
  refine ⟨⟨⟨?_, ?_, ?_, ?_, ?_, ?_⟩, ⟨?_, ?_, ?_, ?_, ?_, ?_⟩⟩, BW.trans (k.mono BW.size)⟩
  all_goals
    first
    | (rw [k.cell (p := ⟨w.heap.size, _, none⟩) q1]; simp; done)
    | (rw [k.cell (p := ⟨w.heap.size + 1, _, none⟩) q2]; simp; done)
set_option maxRecDepth 100000 in
set_option maxHeartbeats 2000000 in
theorem mflow (o d a b c x o' d' a' b' c' x' : Int) (w : World) (h : GI o d a b c x) (h' : GI o' d' a' b' c' x') : Calls Tryd.prog 105 #[.agg #[.int .i64 o, .int .i64 d, .int .i64 a, .int .i64 b, .int .i64 c, .int .u32 x], .agg #[.int .i64 o', .int .i64 d', .int .i64 a', .int .i64 b', .int .i64 c', .int .u32 x']] w fun e w' => e = .returned (.bool (flI o d o' a' b' c' x')) ∧ Below w.heap.size w w' := by
  have HC := Hid.mk (ins_blk2 w o d a b c x o' d' a' b' c' x')
  have h62 := fun v => writes63 o d a b c x v h.op
  have h106 := fun v => mreads o' d' a' b' c' x' d v h'
  have dn := h.dn
  unfold flI
  generalize decide (d ∈ opsL o' a' b' c' x') = q at h106
  cases hn : nmd o 0
  all_goals
    simp only [hn, if_true, Bool.false_eq_true, if_false] at h62
    clear hn h h'
    go_enter Tryd.func105, Tryd.ntmps105
    go_wp2_with (first | (go_at_call 62; refine (h62 _).mono ?_; rintro e w1 ⟨rfl, b1⟩; (obtain ⟨⟨⟨d0, d1, d2, d3, d4, d5⟩, ⟨f0, f1, f2, f3, f4, f5⟩⟩, B1⟩ := HC.out _ b1)) | (go_at_call 106; refine (h106 _).mono ?_; rintro e w2 ⟨rfl, b2⟩))
    go_ret
    first
    | exact ⟨rfl, B1⟩
    | exact ⟨rfl, B1.trans (b2.mono B1.size)⟩
set_option maxRecDepth 100000 in
set_option maxHeartbeats 2000000 in
theorem mwait (o d a b c x o' d' a' b' c' x' : Int) (w : World) (h : GI o d a b c x) (h' : GI o' d' a' b' c' x') : Calls Tryd.prog 84 #[.agg #[.int .i64 o, .int .i64 d, .int .i64 a, .int .i64 b, .int .i64 c, .int .u32 x], .agg #[.int .i64 o', .int .i64 d', .int .i64 a', .int .i64 b', .int .i64 c', .int .u32 x']] w fun e w' => e = .returned (.int .i64 (waI o d x o' a' b' c' x')) ∧ Below w.heap.size w w' := by
  have HC := Hid.mk (ins_blk2 w o d a b c x o' d' a' b' c' x')
  have h105 := fun v => mflow o d a b c x o' d' a' b' c' x' v h h'
  have h39 := fun v => mlat o d a b c x v h.1.1 h.1.2 h.h3
  unfold waI
  generalize flI o d o' a' b' c' x' = q at h105
  clear h h'
  cases q
  all_goals
    simp only [if_true, Bool.false_eq_true, if_false]
    go_enter Tryd.func84, Tryd.ntmps84
    go_wp2_with (first | (go_at_call 105; refine (h105 _).mono ?_; rintro e w1 ⟨rfl, b1⟩; (obtain ⟨⟨⟨d0, d1, d2, d3, d4, d5⟩, ⟨f0, f1, f2, f3, f4, f5⟩⟩, B1⟩ := HC.out _ b1)) | (go_at_call 39; refine (h39 _).mono ?_; rintro e w2 ⟨rfl, b2⟩))
    go_ret
    first
    | exact ⟨rfl, B1⟩
    | exact ⟨rfl, B1.trans (b2.mono B1.size)⟩
set_option maxRecDepth 100000 in
set_option maxHeartbeats 8000000 in
theorem mneeds (o d a b c x o' d' a' b' c' x' : Int) (w : World) (h : GI o d a b c x) (h' : GI o' d' a' b' c' x') : Calls Tryd.prog 79 #[.agg #[.int .i64 o, .int .i64 d, .int .i64 a, .int .i64 b, .int .i64 c, .int .u32 x], .agg #[.int .i64 o', .int .i64 d', .int .i64 a', .int .i64 b', .int .i64 c', .int .u32 x']] w fun e w' => e = .returned (.bool (ndI o d a b c x o' d' a' b' c' x')) ∧ Below w.heap.size w w' := by
  have HC := Hid.mk (ins_blk2 w o d a b c x o' d' a' b' c' x')
  have h1 := fun v => writes63 o d a b c x v h.op
  have h2 := fun v => writes63 o' d' a' b' c' x' v h'.op
  have h3 := fun v => mflow o d a b c x o' d' a' b' c' x' v h h'
  have h4 := fun v => mreads o d a b c x d' v h
  have h5 := fun v => mmem o d a b c x v
  have h6 := fun v => mmem o' d' a' b' c' x' v
  have dn := h.dn
  have dn' := h'.dn
  clear h h'
  unfold ndI meI
  generalize flI o d o' a' b' c' x' = q3 at h3 ⊢
  generalize decide (d' ∈ opsL o a b c x) = q4 at h4 ⊢
  generalize mmI o = M1 at h5 ⊢
  generalize mmI o' = M2 at h6 ⊢
  cases q3
  case true =>
    generalize (if nmd o 0 = true then d else -1) = dv at h1
    generalize (if nmd o' 0 = true then d' else -1) = ev at h2
    go_enter Tryd.func79, Tryd.ntmps79
    have bb : Below ((w.alloc (.cells #[.int .i64 o, .int .i64 d, .int .i64 a, .int .i64 b, .int .i64 c, .int .u32 x] 35)).alloc (.cells #[.int .i64 o', .int .i64 d', .int .i64 a', .int .i64 b', .int .i64 c', .int .u32 x'] 35)).heap.size ((w.alloc (.cells #[.int .i64 o, .int .i64 d, .int .i64 a, .int .i64 b, .int .i64 c, .int .u32 x] 35)).alloc (.cells #[.int .i64 o', .int .i64 d', .int .i64 a', .int .i64 b', .int .i64 c', .int .u32 x'] 35)) ((w.alloc (.cells #[.int .i64 o, .int .i64 d, .int .i64 a, .int .i64 b, .int .i64 c, .int .u32 x] 35)).alloc (.cells #[.int .i64 o', .int .i64 d', .int .i64 a', .int .i64 b', .int .i64 c', .int .u32 x'] 35)) := Below.refl _ _
    go_wp2_with (first | (go_at_call 62; (with_reducible show Calls _ 62 #[.agg #[.int .i64 o, .int .i64 d, .int .i64 a, .int .i64 b, .int .i64 c, .int .u32 x]] _ _); refine (h1 _).mono ?_; rintro e w1 ⟨rfl, b1⟩; (replace bb := bb.trans (b1.mono bb.size)); (obtain ⟨⟨⟨d0, d1, d2, d3, d4, d5⟩, ⟨f0, f1, f2, f3, f4, f5⟩⟩, BB⟩ := HC.out _ bb)) | (go_at_call 62; (with_reducible show Calls _ 62 #[.agg #[.int .i64 o', .int .i64 d', .int .i64 a', .int .i64 b', .int .i64 c', .int .u32 x']] _ _); refine (h2 _).mono ?_; rintro e w1 ⟨rfl, b1⟩; (replace bb := bb.trans (b1.mono bb.size)); (obtain ⟨⟨⟨d0, d1, d2, d3, d4, d5⟩, ⟨f0, f1, f2, f3, f4, f5⟩⟩, BB⟩ := HC.out _ bb)) | (go_at_call 105; (with_reducible show Calls _ 105 _ _ _); refine (h3 _).mono ?_; rintro e w1 ⟨rfl, b1⟩; (replace bb := bb.trans (b1.mono bb.size)); (obtain ⟨⟨⟨d0, d1, d2, d3, d4, d5⟩, ⟨f0, f1, f2, f3, f4, f5⟩⟩, BB⟩ := HC.out _ bb)) | (go_at_call 106; (with_reducible show Calls _ 106 _ _ _); refine (h4 _).mono ?_; rintro e w1 ⟨rfl, b1⟩; (replace bb := bb.trans (b1.mono bb.size)); (obtain ⟨⟨⟨d0, d1, d2, d3, d4, d5⟩, ⟨f0, f1, f2, f3, f4, f5⟩⟩, BB⟩ := HC.out _ bb)) | (go_at_call 107; (with_reducible show Calls _ 107 #[.agg #[.int .i64 o, .int .i64 d, .int .i64 a, .int .i64 b, .int .i64 c, .int .u32 x]] _ _); refine (h5 _).mono ?_; rintro e w1 ⟨rfl, b1⟩; (replace bb := bb.trans (b1.mono bb.size)); (obtain ⟨⟨⟨d0, d1, d2, d3, d4, d5⟩, ⟨f0, f1, f2, f3, f4, f5⟩⟩, BB⟩ := HC.out _ bb)) | (go_at_call 107; (with_reducible show Calls _ 107 #[.agg #[.int .i64 o', .int .i64 d', .int .i64 a', .int .i64 b', .int .i64 c', .int .u32 x']] _ _); refine (h6 _).mono ?_; rintro e w1 ⟨rfl, b1⟩; (replace bb := bb.trans (b1.mono bb.size)); (obtain ⟨⟨⟨d0, d1, d2, d3, d4, d5⟩, ⟨f0, f1, f2, f3, f4, f5⟩⟩, BB⟩ := HC.out _ bb)))
    go_ret
    exact ⟨by first | rfl | simp, BB⟩
  cases hn' : nmd o' 0
  · simp only [hn', Bool.false_eq_true, if_false] at h2
    generalize (if nmd o 0 = true then d else -1) = dv at h1
    clear hn'
    cases M1
    · go_enter Tryd.func79, Tryd.ntmps79
      have bb : Below ((w.alloc (.cells #[.int .i64 o, .int .i64 d, .int .i64 a, .int .i64 b, .int .i64 c, .int .u32 x] 35)).alloc (.cells #[.int .i64 o', .int .i64 d', .int .i64 a', .int .i64 b', .int .i64 c', .int .u32 x'] 35)).heap.size ((w.alloc (.cells #[.int .i64 o, .int .i64 d, .int .i64 a, .int .i64 b, .int .i64 c, .int .u32 x] 35)).alloc (.cells #[.int .i64 o', .int .i64 d', .int .i64 a', .int .i64 b', .int .i64 c', .int .u32 x'] 35)) ((w.alloc (.cells #[.int .i64 o, .int .i64 d, .int .i64 a, .int .i64 b, .int .i64 c, .int .u32 x] 35)).alloc (.cells #[.int .i64 o', .int .i64 d', .int .i64 a', .int .i64 b', .int .i64 c', .int .u32 x'] 35)) := Below.refl _ _
      go_wp2_with (first | (go_at_call 62; (with_reducible show Calls _ 62 #[.agg #[.int .i64 o, .int .i64 d, .int .i64 a, .int .i64 b, .int .i64 c, .int .u32 x]] _ _); refine (h1 _).mono ?_; rintro e w1 ⟨rfl, b1⟩; (replace bb := bb.trans (b1.mono bb.size)); (obtain ⟨⟨⟨d0, d1, d2, d3, d4, d5⟩, ⟨f0, f1, f2, f3, f4, f5⟩⟩, BB⟩ := HC.out _ bb)) | (go_at_call 62; (with_reducible show Calls _ 62 #[.agg #[.int .i64 o', .int .i64 d', .int .i64 a', .int .i64 b', .int .i64 c', .int .u32 x']] _ _); refine (h2 _).mono ?_; rintro e w1 ⟨rfl, b1⟩; (replace bb := bb.trans (b1.mono bb.size)); (obtain ⟨⟨⟨d0, d1, d2, d3, d4, d5⟩, ⟨f0, f1, f2, f3, f4, f5⟩⟩, BB⟩ := HC.out _ bb)) | (go_at_call 105; (with_reducible show Calls _ 105 _ _ _); refine (h3 _).mono ?_; rintro e w1 ⟨rfl, b1⟩; (replace bb := bb.trans (b1.mono bb.size)); (obtain ⟨⟨⟨d0, d1, d2, d3, d4, d5⟩, ⟨f0, f1, f2, f3, f4, f5⟩⟩, BB⟩ := HC.out _ bb)) | (go_at_call 106; (with_reducible show Calls _ 106 _ _ _); refine (h4 _).mono ?_; rintro e w1 ⟨rfl, b1⟩; (replace bb := bb.trans (b1.mono bb.size)); (obtain ⟨⟨⟨d0, d1, d2, d3, d4, d5⟩, ⟨f0, f1, f2, f3, f4, f5⟩⟩, BB⟩ := HC.out _ bb)) | (go_at_call 107; (with_reducible show Calls _ 107 #[.agg #[.int .i64 o, .int .i64 d, .int .i64 a, .int .i64 b, .int .i64 c, .int .u32 x]] _ _); refine (h5 _).mono ?_; rintro e w1 ⟨rfl, b1⟩; (replace bb := bb.trans (b1.mono bb.size)); (obtain ⟨⟨⟨d0, d1, d2, d3, d4, d5⟩, ⟨f0, f1, f2, f3, f4, f5⟩⟩, BB⟩ := HC.out _ bb)) | (go_at_call 107; (with_reducible show Calls _ 107 #[.agg #[.int .i64 o', .int .i64 d', .int .i64 a', .int .i64 b', .int .i64 c', .int .u32 x']] _ _); refine (h6 _).mono ?_; rintro e w1 ⟨rfl, b1⟩; (replace bb := bb.trans (b1.mono bb.size)); (obtain ⟨⟨⟨d0, d1, d2, d3, d4, d5⟩, ⟨f0, f1, f2, f3, f4, f5⟩⟩, BB⟩ := HC.out _ bb)))
      go_ret
      exact ⟨by first | rfl | simp, BB⟩
    cases M2
    · go_enter Tryd.func79, Tryd.ntmps79
      have bb : Below ((w.alloc (.cells #[.int .i64 o, .int .i64 d, .int .i64 a, .int .i64 b, .int .i64 c, .int .u32 x] 35)).alloc (.cells #[.int .i64 o', .int .i64 d', .int .i64 a', .int .i64 b', .int .i64 c', .int .u32 x'] 35)).heap.size ((w.alloc (.cells #[.int .i64 o, .int .i64 d, .int .i64 a, .int .i64 b, .int .i64 c, .int .u32 x] 35)).alloc (.cells #[.int .i64 o', .int .i64 d', .int .i64 a', .int .i64 b', .int .i64 c', .int .u32 x'] 35)) ((w.alloc (.cells #[.int .i64 o, .int .i64 d, .int .i64 a, .int .i64 b, .int .i64 c, .int .u32 x] 35)).alloc (.cells #[.int .i64 o', .int .i64 d', .int .i64 a', .int .i64 b', .int .i64 c', .int .u32 x'] 35)) := Below.refl _ _
      go_wp2_with (first | (go_at_call 62; (with_reducible show Calls _ 62 #[.agg #[.int .i64 o, .int .i64 d, .int .i64 a, .int .i64 b, .int .i64 c, .int .u32 x]] _ _); refine (h1 _).mono ?_; rintro e w1 ⟨rfl, b1⟩; (replace bb := bb.trans (b1.mono bb.size)); (obtain ⟨⟨⟨d0, d1, d2, d3, d4, d5⟩, ⟨f0, f1, f2, f3, f4, f5⟩⟩, BB⟩ := HC.out _ bb)) | (go_at_call 62; (with_reducible show Calls _ 62 #[.agg #[.int .i64 o', .int .i64 d', .int .i64 a', .int .i64 b', .int .i64 c', .int .u32 x']] _ _); refine (h2 _).mono ?_; rintro e w1 ⟨rfl, b1⟩; (replace bb := bb.trans (b1.mono bb.size)); (obtain ⟨⟨⟨d0, d1, d2, d3, d4, d5⟩, ⟨f0, f1, f2, f3, f4, f5⟩⟩, BB⟩ := HC.out _ bb)) | (go_at_call 105; (with_reducible show Calls _ 105 _ _ _); refine (h3 _).mono ?_; rintro e w1 ⟨rfl, b1⟩; (replace bb := bb.trans (b1.mono bb.size)); (obtain ⟨⟨⟨d0, d1, d2, d3, d4, d5⟩, ⟨f0, f1, f2, f3, f4, f5⟩⟩, BB⟩ := HC.out _ bb)) | (go_at_call 106; (with_reducible show Calls _ 106 _ _ _); refine (h4 _).mono ?_; rintro e w1 ⟨rfl, b1⟩; (replace bb := bb.trans (b1.mono bb.size)); (obtain ⟨⟨⟨d0, d1, d2, d3, d4, d5⟩, ⟨f0, f1, f2, f3, f4, f5⟩⟩, BB⟩ := HC.out _ bb)) | (go_at_call 107; (with_reducible show Calls _ 107 #[.agg #[.int .i64 o, .int .i64 d, .int .i64 a, .int .i64 b, .int .i64 c, .int .u32 x]] _ _); refine (h5 _).mono ?_; rintro e w1 ⟨rfl, b1⟩; (replace bb := bb.trans (b1.mono bb.size)); (obtain ⟨⟨⟨d0, d1, d2, d3, d4, d5⟩, ⟨f0, f1, f2, f3, f4, f5⟩⟩, BB⟩ := HC.out _ bb)) | (go_at_call 107; (with_reducible show Calls _ 107 #[.agg #[.int .i64 o', .int .i64 d', .int .i64 a', .int .i64 b', .int .i64 c', .int .u32 x']] _ _); refine (h6 _).mono ?_; rintro e w1 ⟨rfl, b1⟩; (replace bb := bb.trans (b1.mono bb.size)); (obtain ⟨⟨⟨d0, d1, d2, d3, d4, d5⟩, ⟨f0, f1, f2, f3, f4, f5⟩⟩, BB⟩ := HC.out _ bb)))
      go_ret
      exact ⟨by first | rfl | simp, BB⟩
    cases hX : (x == x')
    · go_enter Tryd.func79, Tryd.ntmps79
      have bb : Below ((w.alloc (.cells #[.int .i64 o, .int .i64 d, .int .i64 a, .int .i64 b, .int .i64 c, .int .u32 x] 35)).alloc (.cells #[.int .i64 o', .int .i64 d', .int .i64 a', .int .i64 b', .int .i64 c', .int .u32 x'] 35)).heap.size ((w.alloc (.cells #[.int .i64 o, .int .i64 d, .int .i64 a, .int .i64 b, .int .i64 c, .int .u32 x] 35)).alloc (.cells #[.int .i64 o', .int .i64 d', .int .i64 a', .int .i64 b', .int .i64 c', .int .u32 x'] 35)) ((w.alloc (.cells #[.int .i64 o, .int .i64 d, .int .i64 a, .int .i64 b, .int .i64 c, .int .u32 x] 35)).alloc (.cells #[.int .i64 o', .int .i64 d', .int .i64 a', .int .i64 b', .int .i64 c', .int .u32 x'] 35)) := Below.refl _ _
      go_wp2_with (first | (go_at_call 62; (with_reducible show Calls _ 62 #[.agg #[.int .i64 o, .int .i64 d, .int .i64 a, .int .i64 b, .int .i64 c, .int .u32 x]] _ _); refine (h1 _).mono ?_; rintro e w1 ⟨rfl, b1⟩; (replace bb := bb.trans (b1.mono bb.size)); (obtain ⟨⟨⟨d0, d1, d2, d3, d4, d5⟩, ⟨f0, f1, f2, f3, f4, f5⟩⟩, BB⟩ := HC.out _ bb)) | (go_at_call 62; (with_reducible show Calls _ 62 #[.agg #[.int .i64 o', .int .i64 d', .int .i64 a', .int .i64 b', .int .i64 c', .int .u32 x']] _ _); refine (h2 _).mono ?_; rintro e w1 ⟨rfl, b1⟩; (replace bb := bb.trans (b1.mono bb.size)); (obtain ⟨⟨⟨d0, d1, d2, d3, d4, d5⟩, ⟨f0, f1, f2, f3, f4, f5⟩⟩, BB⟩ := HC.out _ bb)) | (go_at_call 105; (with_reducible show Calls _ 105 _ _ _); refine (h3 _).mono ?_; rintro e w1 ⟨rfl, b1⟩; (replace bb := bb.trans (b1.mono bb.size)); (obtain ⟨⟨⟨d0, d1, d2, d3, d4, d5⟩, ⟨f0, f1, f2, f3, f4, f5⟩⟩, BB⟩ := HC.out _ bb)) | (go_at_call 106; (with_reducible show Calls _ 106 _ _ _); refine (h4 _).mono ?_; rintro e w1 ⟨rfl, b1⟩; (replace bb := bb.trans (b1.mono bb.size)); (obtain ⟨⟨⟨d0, d1, d2, d3, d4, d5⟩, ⟨f0, f1, f2, f3, f4, f5⟩⟩, BB⟩ := HC.out _ bb)) | (go_at_call 107; (with_reducible show Calls _ 107 #[.agg #[.int .i64 o, .int .i64 d, .int .i64 a, .int .i64 b, .int .i64 c, .int .u32 x]] _ _); refine (h5 _).mono ?_; rintro e w1 ⟨rfl, b1⟩; (replace bb := bb.trans (b1.mono bb.size)); (obtain ⟨⟨⟨d0, d1, d2, d3, d4, d5⟩, ⟨f0, f1, f2, f3, f4, f5⟩⟩, BB⟩ := HC.out _ bb)) | (go_at_call 107; (with_reducible show Calls _ 107 #[.agg #[.int .i64 o', .int .i64 d', .int .i64 a', .int .i64 b', .int .i64 c', .int .u32 x']] _ _); refine (h6 _).mono ?_; rintro e w1 ⟨rfl, b1⟩; (replace bb := bb.trans (b1.mono bb.size)); (obtain ⟨⟨⟨d0, d1, d2, d3, d4, d5⟩, ⟨f0, f1, f2, f3, f4, f5⟩⟩, BB⟩ := HC.out _ bb)))
      go_ret
      exact ⟨by first | rfl | simp, BB⟩
    cases hS : (o == 7)
    · cases hS2 : (o' == 7)
      · go_enter Tryd.func79, Tryd.ntmps79
        have bb : Below ((w.alloc (.cells #[.int .i64 o, .int .i64 d, .int .i64 a, .int .i64 b, .int .i64 c, .int .u32 x] 35)).alloc (.cells #[.int .i64 o', .int .i64 d', .int .i64 a', .int .i64 b', .int .i64 c', .int .u32 x'] 35)).heap.size ((w.alloc (.cells #[.int .i64 o, .int .i64 d, .int .i64 a, .int .i64 b, .int .i64 c, .int .u32 x] 35)).alloc (.cells #[.int .i64 o', .int .i64 d', .int .i64 a', .int .i64 b', .int .i64 c', .int .u32 x'] 35)) ((w.alloc (.cells #[.int .i64 o, .int .i64 d, .int .i64 a, .int .i64 b, .int .i64 c, .int .u32 x] 35)).alloc (.cells #[.int .i64 o', .int .i64 d', .int .i64 a', .int .i64 b', .int .i64 c', .int .u32 x'] 35)) := Below.refl _ _
        go_wp2_with (first | (go_at_call 62; (with_reducible show Calls _ 62 #[.agg #[.int .i64 o, .int .i64 d, .int .i64 a, .int .i64 b, .int .i64 c, .int .u32 x]] _ _); refine (h1 _).mono ?_; rintro e w1 ⟨rfl, b1⟩; (replace bb := bb.trans (b1.mono bb.size)); (obtain ⟨⟨⟨d0, d1, d2, d3, d4, d5⟩, ⟨f0, f1, f2, f3, f4, f5⟩⟩, BB⟩ := HC.out _ bb)) | (go_at_call 62; (with_reducible show Calls _ 62 #[.agg #[.int .i64 o', .int .i64 d', .int .i64 a', .int .i64 b', .int .i64 c', .int .u32 x']] _ _); refine (h2 _).mono ?_; rintro e w1 ⟨rfl, b1⟩; (replace bb := bb.trans (b1.mono bb.size)); (obtain ⟨⟨⟨d0, d1, d2, d3, d4, d5⟩, ⟨f0, f1, f2, f3, f4, f5⟩⟩, BB⟩ := HC.out _ bb)) | (go_at_call 105; (with_reducible show Calls _ 105 _ _ _); refine (h3 _).mono ?_; rintro e w1 ⟨rfl, b1⟩; (replace bb := bb.trans (b1.mono bb.size)); (obtain ⟨⟨⟨d0, d1, d2, d3, d4, d5⟩, ⟨f0, f1, f2, f3, f4, f5⟩⟩, BB⟩ := HC.out _ bb)) | (go_at_call 106; (with_reducible show Calls _ 106 _ _ _); refine (h4 _).mono ?_; rintro e w1 ⟨rfl, b1⟩; (replace bb := bb.trans (b1.mono bb.size)); (obtain ⟨⟨⟨d0, d1, d2, d3, d4, d5⟩, ⟨f0, f1, f2, f3, f4, f5⟩⟩, BB⟩ := HC.out _ bb)) | (go_at_call 107; (with_reducible show Calls _ 107 #[.agg #[.int .i64 o, .int .i64 d, .int .i64 a, .int .i64 b, .int .i64 c, .int .u32 x]] _ _); refine (h5 _).mono ?_; rintro e w1 ⟨rfl, b1⟩; (replace bb := bb.trans (b1.mono bb.size)); (obtain ⟨⟨⟨d0, d1, d2, d3, d4, d5⟩, ⟨f0, f1, f2, f3, f4, f5⟩⟩, BB⟩ := HC.out _ bb)) | (go_at_call 107; (with_reducible show Calls _ 107 #[.agg #[.int .i64 o', .int .i64 d', .int .i64 a', .int .i64 b', .int .i64 c', .int .u32 x']] _ _); refine (h6 _).mono ?_; rintro e w1 ⟨rfl, b1⟩; (replace bb := bb.trans (b1.mono bb.size)); (obtain ⟨⟨⟨d0, d1, d2, d3, d4, d5⟩, ⟨f0, f1, f2, f3, f4, f5⟩⟩, BB⟩ := HC.out _ bb)))
        go_ret
        exact ⟨by first | rfl | simp, BB⟩
      · go_enter Tryd.func79, Tryd.ntmps79
        have bb : Below ((w.alloc (.cells #[.int .i64 o, .int .i64 d, .int .i64 a, .int .i64 b, .int .i64 c, .int .u32 x] 35)).alloc (.cells #[.int .i64 o', .int .i64 d', .int .i64 a', .int .i64 b', .int .i64 c', .int .u32 x'] 35)).heap.size ((w.alloc (.cells #[.int .i64 o, .int .i64 d, .int .i64 a, .int .i64 b, .int .i64 c, .int .u32 x] 35)).alloc (.cells #[.int .i64 o', .int .i64 d', .int .i64 a', .int .i64 b', .int .i64 c', .int .u32 x'] 35)) ((w.alloc (.cells #[.int .i64 o, .int .i64 d, .int .i64 a, .int .i64 b, .int .i64 c, .int .u32 x] 35)).alloc (.cells #[.int .i64 o', .int .i64 d', .int .i64 a', .int .i64 b', .int .i64 c', .int .u32 x'] 35)) := Below.refl _ _
        go_wp2_with (first | (go_at_call 62; (with_reducible show Calls _ 62 #[.agg #[.int .i64 o, .int .i64 d, .int .i64 a, .int .i64 b, .int .i64 c, .int .u32 x]] _ _); refine (h1 _).mono ?_; rintro e w1 ⟨rfl, b1⟩; (replace bb := bb.trans (b1.mono bb.size)); (obtain ⟨⟨⟨d0, d1, d2, d3, d4, d5⟩, ⟨f0, f1, f2, f3, f4, f5⟩⟩, BB⟩ := HC.out _ bb)) | (go_at_call 62; (with_reducible show Calls _ 62 #[.agg #[.int .i64 o', .int .i64 d', .int .i64 a', .int .i64 b', .int .i64 c', .int .u32 x']] _ _); refine (h2 _).mono ?_; rintro e w1 ⟨rfl, b1⟩; (replace bb := bb.trans (b1.mono bb.size)); (obtain ⟨⟨⟨d0, d1, d2, d3, d4, d5⟩, ⟨f0, f1, f2, f3, f4, f5⟩⟩, BB⟩ := HC.out _ bb)) | (go_at_call 105; (with_reducible show Calls _ 105 _ _ _); refine (h3 _).mono ?_; rintro e w1 ⟨rfl, b1⟩; (replace bb := bb.trans (b1.mono bb.size)); (obtain ⟨⟨⟨d0, d1, d2, d3, d4, d5⟩, ⟨f0, f1, f2, f3, f4, f5⟩⟩, BB⟩ := HC.out _ bb)) | (go_at_call 106; (with_reducible show Calls _ 106 _ _ _); refine (h4 _).mono ?_; rintro e w1 ⟨rfl, b1⟩; (replace bb := bb.trans (b1.mono bb.size)); (obtain ⟨⟨⟨d0, d1, d2, d3, d4, d5⟩, ⟨f0, f1, f2, f3, f4, f5⟩⟩, BB⟩ := HC.out _ bb)) | (go_at_call 107; (with_reducible show Calls _ 107 #[.agg #[.int .i64 o, .int .i64 d, .int .i64 a, .int .i64 b, .int .i64 c, .int .u32 x]] _ _); refine (h5 _).mono ?_; rintro e w1 ⟨rfl, b1⟩; (replace bb := bb.trans (b1.mono bb.size)); (obtain ⟨⟨⟨d0, d1, d2, d3, d4, d5⟩, ⟨f0, f1, f2, f3, f4, f5⟩⟩, BB⟩ := HC.out _ bb)) | (go_at_call 107; (with_reducible show Calls _ 107 #[.agg #[.int .i64 o', .int .i64 d', .int .i64 a', .int .i64 b', .int .i64 c', .int .u32 x']] _ _); refine (h6 _).mono ?_; rintro e w1 ⟨rfl, b1⟩; (replace bb := bb.trans (b1.mono bb.size)); (obtain ⟨⟨⟨d0, d1, d2, d3, d4, d5⟩, ⟨f0, f1, f2, f3, f4, f5⟩⟩, BB⟩ := HC.out _ bb)))
        go_ret
        exact ⟨by first | rfl | simp, BB⟩
    · go_enter Tryd.func79, Tryd.ntmps79
      have bb : Below ((w.alloc (.cells #[.int .i64 o, .int .i64 d, .int .i64 a, .int .i64 b, .int .i64 c, .int .u32 x] 35)).alloc (.cells #[.int .i64 o', .int .i64 d', .int .i64 a', .int .i64 b', .int .i64 c', .int .u32 x'] 35)).heap.size ((w.alloc (.cells #[.int .i64 o, .int .i64 d, .int .i64 a, .int .i64 b, .int .i64 c, .int .u32 x] 35)).alloc (.cells #[.int .i64 o', .int .i64 d', .int .i64 a', .int .i64 b', .int .i64 c', .int .u32 x'] 35)) ((w.alloc (.cells #[.int .i64 o, .int .i64 d, .int .i64 a, .int .i64 b, .int .i64 c, .int .u32 x] 35)).alloc (.cells #[.int .i64 o', .int .i64 d', .int .i64 a', .int .i64 b', .int .i64 c', .int .u32 x'] 35)) := Below.refl _ _
      go_wp2_with (first | (go_at_call 62; (with_reducible show Calls _ 62 #[.agg #[.int .i64 o, .int .i64 d, .int .i64 a, .int .i64 b, .int .i64 c, .int .u32 x]] _ _); refine (h1 _).mono ?_; rintro e w1 ⟨rfl, b1⟩; (replace bb := bb.trans (b1.mono bb.size)); (obtain ⟨⟨⟨d0, d1, d2, d3, d4, d5⟩, ⟨f0, f1, f2, f3, f4, f5⟩⟩, BB⟩ := HC.out _ bb)) | (go_at_call 62; (with_reducible show Calls _ 62 #[.agg #[.int .i64 o', .int .i64 d', .int .i64 a', .int .i64 b', .int .i64 c', .int .u32 x']] _ _); refine (h2 _).mono ?_; rintro e w1 ⟨rfl, b1⟩; (replace bb := bb.trans (b1.mono bb.size)); (obtain ⟨⟨⟨d0, d1, d2, d3, d4, d5⟩, ⟨f0, f1, f2, f3, f4, f5⟩⟩, BB⟩ := HC.out _ bb)) | (go_at_call 105; (with_reducible show Calls _ 105 _ _ _); refine (h3 _).mono ?_; rintro e w1 ⟨rfl, b1⟩; (replace bb := bb.trans (b1.mono bb.size)); (obtain ⟨⟨⟨d0, d1, d2, d3, d4, d5⟩, ⟨f0, f1, f2, f3, f4, f5⟩⟩, BB⟩ := HC.out _ bb)) | (go_at_call 106; (with_reducible show Calls _ 106 _ _ _); refine (h4 _).mono ?_; rintro e w1 ⟨rfl, b1⟩; (replace bb := bb.trans (b1.mono bb.size)); (obtain ⟨⟨⟨d0, d1, d2, d3, d4, d5⟩, ⟨f0, f1, f2, f3, f4, f5⟩⟩, BB⟩ := HC.out _ bb)) | (go_at_call 107; (with_reducible show Calls _ 107 #[.agg #[.int .i64 o, .int .i64 d, .int .i64 a, .int .i64 b, .int .i64 c, .int .u32 x]] _ _); refine (h5 _).mono ?_; rintro e w1 ⟨rfl, b1⟩; (replace bb := bb.trans (b1.mono bb.size)); (obtain ⟨⟨⟨d0, d1, d2, d3, d4, d5⟩, ⟨f0, f1, f2, f3, f4, f5⟩⟩, BB⟩ := HC.out _ bb)) | (go_at_call 107; (with_reducible show Calls _ 107 #[.agg #[.int .i64 o', .int .i64 d', .int .i64 a', .int .i64 b', .int .i64 c', .int .u32 x']] _ _); refine (h6 _).mono ?_; rintro e w1 ⟨rfl, b1⟩; (replace bb := bb.trans (b1.mono bb.size)); (obtain ⟨⟨⟨d0, d1, d2, d3, d4, d5⟩, ⟨f0, f1, f2, f3, f4, f5⟩⟩, BB⟩ := HC.out _ bb)))
      go_ret
      exact ⟨by first | rfl | simp, BB⟩
  simp only [hn', if_true] at h2
  clear hn'
  cases q4
  case true =>
    generalize (if nmd o 0 = true then d else -1) = dv at h1
    go_enter Tryd.func79, Tryd.ntmps79
    have bb : Below ((w.alloc (.cells #[.int .i64 o, .int .i64 d, .int .i64 a, .int .i64 b, .int .i64 c, .int .u32 x] 35)).alloc (.cells #[.int .i64 o', .int .i64 d', .int .i64 a', .int .i64 b', .int .i64 c', .int .u32 x'] 35)).heap.size ((w.alloc (.cells #[.int .i64 o, .int .i64 d, .int .i64 a, .int .i64 b, .int .i64 c, .int .u32 x] 35)).alloc (.cells #[.int .i64 o', .int .i64 d', .int .i64 a', .int .i64 b', .int .i64 c', .int .u32 x'] 35)) ((w.alloc (.cells #[.int .i64 o, .int .i64 d, .int .i64 a, .int .i64 b, .int .i64 c, .int .u32 x] 35)).alloc (.cells #[.int .i64 o', .int .i64 d', .int .i64 a', .int .i64 b', .int .i64 c', .int .u32 x'] 35)) := Below.refl _ _
    go_wp2_with (first | (go_at_call 62; (with_reducible show Calls _ 62 #[.agg #[.int .i64 o, .int .i64 d, .int .i64 a, .int .i64 b, .int .i64 c, .int .u32 x]] _ _); refine (h1 _).mono ?_; rintro e w1 ⟨rfl, b1⟩; (replace bb := bb.trans (b1.mono bb.size)); (obtain ⟨⟨⟨d0, d1, d2, d3, d4, d5⟩, ⟨f0, f1, f2, f3, f4, f5⟩⟩, BB⟩ := HC.out _ bb)) | (go_at_call 62; (with_reducible show Calls _ 62 #[.agg #[.int .i64 o', .int .i64 d', .int .i64 a', .int .i64 b', .int .i64 c', .int .u32 x']] _ _); refine (h2 _).mono ?_; rintro e w1 ⟨rfl, b1⟩; (replace bb := bb.trans (b1.mono bb.size)); (obtain ⟨⟨⟨d0, d1, d2, d3, d4, d5⟩, ⟨f0, f1, f2, f3, f4, f5⟩⟩, BB⟩ := HC.out _ bb)) | (go_at_call 105; (with_reducible show Calls _ 105 _ _ _); refine (h3 _).mono ?_; rintro e w1 ⟨rfl, b1⟩; (replace bb := bb.trans (b1.mono bb.size)); (obtain ⟨⟨⟨d0, d1, d2, d3, d4, d5⟩, ⟨f0, f1, f2, f3, f4, f5⟩⟩, BB⟩ := HC.out _ bb)) | (go_at_call 106; (with_reducible show Calls _ 106 _ _ _); refine (h4 _).mono ?_; rintro e w1 ⟨rfl, b1⟩; (replace bb := bb.trans (b1.mono bb.size)); (obtain ⟨⟨⟨d0, d1, d2, d3, d4, d5⟩, ⟨f0, f1, f2, f3, f4, f5⟩⟩, BB⟩ := HC.out _ bb)) | (go_at_call 107; (with_reducible show Calls _ 107 #[.agg #[.int .i64 o, .int .i64 d, .int .i64 a, .int .i64 b, .int .i64 c, .int .u32 x]] _ _); refine (h5 _).mono ?_; rintro e w1 ⟨rfl, b1⟩; (replace bb := bb.trans (b1.mono bb.size)); (obtain ⟨⟨⟨d0, d1, d2, d3, d4, d5⟩, ⟨f0, f1, f2, f3, f4, f5⟩⟩, BB⟩ := HC.out _ bb)) | (go_at_call 107; (with_reducible show Calls _ 107 #[.agg #[.int .i64 o', .int .i64 d', .int .i64 a', .int .i64 b', .int .i64 c', .int .u32 x']] _ _); refine (h6 _).mono ?_; rintro e w1 ⟨rfl, b1⟩; (replace bb := bb.trans (b1.mono bb.size)); (obtain ⟨⟨⟨d0, d1, d2, d3, d4, d5⟩, ⟨f0, f1, f2, f3, f4, f5⟩⟩, BB⟩ := HC.out _ bb)))
    go_ret
    exact ⟨by first | rfl | simp, BB⟩
  cases hq : (nmd o 0 && d == d')
  · have he : ((if nmd o 0 = true then d else -1) == d') = false := by
      cases hn : nmd o 0
      · simp; omega
      · rw [hn] at hq; simpa using hq
    generalize (if nmd o 0 = true then d else -1) = dv at h1 he
    clear hq
    cases M1
    · go_enter Tryd.func79, Tryd.ntmps79
      have bb : Below ((w.alloc (.cells #[.int .i64 o, .int .i64 d, .int .i64 a, .int .i64 b, .int .i64 c, .int .u32 x] 35)).alloc (.cells #[.int .i64 o', .int .i64 d', .int .i64 a', .int .i64 b', .int .i64 c', .int .u32 x'] 35)).heap.size ((w.alloc (.cells #[.int .i64 o, .int .i64 d, .int .i64 a, .int .i64 b, .int .i64 c, .int .u32 x] 35)).alloc (.cells #[.int .i64 o', .int .i64 d', .int .i64 a', .int .i64 b', .int .i64 c', .int .u32 x'] 35)) ((w.alloc (.cells #[.int .i64 o, .int .i64 d, .int .i64 a, .int .i64 b, .int .i64 c, .int .u32 x] 35)).alloc (.cells #[.int .i64 o', .int .i64 d', .int .i64 a', .int .i64 b', .int .i64 c', .int .u32 x'] 35)) := Below.refl _ _
      go_wp2_with (first | (go_at_call 62; (with_reducible show Calls _ 62 #[.agg #[.int .i64 o, .int .i64 d, .int .i64 a, .int .i64 b, .int .i64 c, .int .u32 x]] _ _); refine (h1 _).mono ?_; rintro e w1 ⟨rfl, b1⟩; (replace bb := bb.trans (b1.mono bb.size)); (obtain ⟨⟨⟨d0, d1, d2, d3, d4, d5⟩, ⟨f0, f1, f2, f3, f4, f5⟩⟩, BB⟩ := HC.out _ bb)) | (go_at_call 62; (with_reducible show Calls _ 62 #[.agg #[.int .i64 o', .int .i64 d', .int .i64 a', .int .i64 b', .int .i64 c', .int .u32 x']] _ _); refine (h2 _).mono ?_; rintro e w1 ⟨rfl, b1⟩; (replace bb := bb.trans (b1.mono bb.size)); (obtain ⟨⟨⟨d0, d1, d2, d3, d4, d5⟩, ⟨f0, f1, f2, f3, f4, f5⟩⟩, BB⟩ := HC.out _ bb)) | (go_at_call 105; (with_reducible show Calls _ 105 _ _ _); refine (h3 _).mono ?_; rintro e w1 ⟨rfl, b1⟩; (replace bb := bb.trans (b1.mono bb.size)); (obtain ⟨⟨⟨d0, d1, d2, d3, d4, d5⟩, ⟨f0, f1, f2, f3, f4, f5⟩⟩, BB⟩ := HC.out _ bb)) | (go_at_call 106; (with_reducible show Calls _ 106 _ _ _); refine (h4 _).mono ?_; rintro e w1 ⟨rfl, b1⟩; (replace bb := bb.trans (b1.mono bb.size)); (obtain ⟨⟨⟨d0, d1, d2, d3, d4, d5⟩, ⟨f0, f1, f2, f3, f4, f5⟩⟩, BB⟩ := HC.out _ bb)) | (go_at_call 107; (with_reducible show Calls _ 107 #[.agg #[.int .i64 o, .int .i64 d, .int .i64 a, .int .i64 b, .int .i64 c, .int .u32 x]] _ _); refine (h5 _).mono ?_; rintro e w1 ⟨rfl, b1⟩; (replace bb := bb.trans (b1.mono bb.size)); (obtain ⟨⟨⟨d0, d1, d2, d3, d4, d5⟩, ⟨f0, f1, f2, f3, f4, f5⟩⟩, BB⟩ := HC.out _ bb)) | (go_at_call 107; (with_reducible show Calls _ 107 #[.agg #[.int .i64 o', .int .i64 d', .int .i64 a', .int .i64 b', .int .i64 c', .int .u32 x']] _ _); refine (h6 _).mono ?_; rintro e w1 ⟨rfl, b1⟩; (replace bb := bb.trans (b1.mono bb.size)); (obtain ⟨⟨⟨d0, d1, d2, d3, d4, d5⟩, ⟨f0, f1, f2, f3, f4, f5⟩⟩, BB⟩ := HC.out _ bb)))
      go_ret
      exact ⟨by first | rfl | simp, BB⟩
    cases M2
    · go_enter Tryd.func79, Tryd.ntmps79
      have bb : Below ((w.alloc (.cells #[.int .i64 o, .int .i64 d, .int .i64 a, .int .i64 b, .int .i64 c, .int .u32 x] 35)).alloc (.cells #[.int .i64 o', .int .i64 d', .int .i64 a', .int .i64 b', .int .i64 c', .int .u32 x'] 35)).heap.size ((w.alloc (.cells #[.int .i64 o, .int .i64 d, .int .i64 a, .int .i64 b, .int .i64 c, .int .u32 x] 35)).alloc (.cells #[.int .i64 o', .int .i64 d', .int .i64 a', .int .i64 b', .int .i64 c', .int .u32 x'] 35)) ((w.alloc (.cells #[.int .i64 o, .int .i64 d, .int .i64 a, .int .i64 b, .int .i64 c, .int .u32 x] 35)).alloc (.cells #[.int .i64 o', .int .i64 d', .int .i64 a', .int .i64 b', .int .i64 c', .int .u32 x'] 35)) := Below.refl _ _
      go_wp2_with (first | (go_at_call 62; (with_reducible show Calls _ 62 #[.agg #[.int .i64 o, .int .i64 d, .int .i64 a, .int .i64 b, .int .i64 c, .int .u32 x]] _ _); refine (h1 _).mono ?_; rintro e w1 ⟨rfl, b1⟩; (replace bb := bb.trans (b1.mono bb.size)); (obtain ⟨⟨⟨d0, d1, d2, d3, d4, d5⟩, ⟨f0, f1, f2, f3, f4, f5⟩⟩, BB⟩ := HC.out _ bb)) | (go_at_call 62; (with_reducible show Calls _ 62 #[.agg #[.int .i64 o', .int .i64 d', .int .i64 a', .int .i64 b', .int .i64 c', .int .u32 x']] _ _); refine (h2 _).mono ?_; rintro e w1 ⟨rfl, b1⟩; (replace bb := bb.trans (b1.mono bb.size)); (obtain ⟨⟨⟨d0, d1, d2, d3, d4, d5⟩, ⟨f0, f1, f2, f3, f4, f5⟩⟩, BB⟩ := HC.out _ bb)) | (go_at_call 105; (with_reducible show Calls _ 105 _ _ _); refine (h3 _).mono ?_; rintro e w1 ⟨rfl, b1⟩; (replace bb := bb.trans (b1.mono bb.size)); (obtain ⟨⟨⟨d0, d1, d2, d3, d4, d5⟩, ⟨f0, f1, f2, f3, f4, f5⟩⟩, BB⟩ := HC.out _ bb)) | (go_at_call 106; (with_reducible show Calls _ 106 _ _ _); refine (h4 _).mono ?_; rintro e w1 ⟨rfl, b1⟩; (replace bb := bb.trans (b1.mono bb.size)); (obtain ⟨⟨⟨d0, d1, d2, d3, d4, d5⟩, ⟨f0, f1, f2, f3, f4, f5⟩⟩, BB⟩ := HC.out _ bb)) | (go_at_call 107; (with_reducible show Calls _ 107 #[.agg #[.int .i64 o, .int .i64 d, .int .i64 a, .int .i64 b, .int .i64 c, .int .u32 x]] _ _); refine (h5 _).mono ?_; rintro e w1 ⟨rfl, b1⟩; (replace bb := bb.trans (b1.mono bb.size)); (obtain ⟨⟨⟨d0, d1, d2, d3, d4, d5⟩, ⟨f0, f1, f2, f3, f4, f5⟩⟩, BB⟩ := HC.out _ bb)) | (go_at_call 107; (with_reducible show Calls _ 107 #[.agg #[.int .i64 o', .int .i64 d', .int .i64 a', .int .i64 b', .int .i64 c', .int .u32 x']] _ _); refine (h6 _).mono ?_; rintro e w1 ⟨rfl, b1⟩; (replace bb := bb.trans (b1.mono bb.size)); (obtain ⟨⟨⟨d0, d1, d2, d3, d4, d5⟩, ⟨f0, f1, f2, f3, f4, f5⟩⟩, BB⟩ := HC.out _ bb)))
      go_ret
      exact ⟨by first | rfl | simp, BB⟩
    cases hX : (x == x')
    · go_enter Tryd.func79, Tryd.ntmps79
      have bb : Below ((w.alloc (.cells #[.int .i64 o, .int .i64 d, .int .i64 a, .int .i64 b, .int .i64 c, .int .u32 x] 35)).alloc (.cells #[.int .i64 o', .int .i64 d', .int .i64 a', .int .i64 b', .int .i64 c', .int .u32 x'] 35)).heap.size ((w.alloc (.cells #[.int .i64 o, .int .i64 d, .int .i64 a, .int .i64 b, .int .i64 c, .int .u32 x] 35)).alloc (.cells #[.int .i64 o', .int .i64 d', .int .i64 a', .int .i64 b', .int .i64 c', .int .u32 x'] 35)) ((w.alloc (.cells #[.int .i64 o, .int .i64 d, .int .i64 a, .int .i64 b, .int .i64 c, .int .u32 x] 35)).alloc (.cells #[.int .i64 o', .int .i64 d', .int .i64 a', .int .i64 b', .int .i64 c', .int .u32 x'] 35)) := Below.refl _ _
      go_wp2_with (first | (go_at_call 62; (with_reducible show Calls _ 62 #[.agg #[.int .i64 o, .int .i64 d, .int .i64 a, .int .i64 b, .int .i64 c, .int .u32 x]] _ _); refine (h1 _).mono ?_; rintro e w1 ⟨rfl, b1⟩; (replace bb := bb.trans (b1.mono bb.size)); (obtain ⟨⟨⟨d0, d1, d2, d3, d4, d5⟩, ⟨f0, f1, f2, f3, f4, f5⟩⟩, BB⟩ := HC.out _ bb)) | (go_at_call 62; (with_reducible show Calls _ 62 #[.agg #[.int .i64 o', .int .i64 d', .int .i64 a', .int .i64 b', .int .i64 c', .int .u32 x']] _ _); refine (h2 _).mono ?_; rintro e w1 ⟨rfl, b1⟩; (replace bb := bb.trans (b1.mono bb.size)); (obtain ⟨⟨⟨d0, d1, d2, d3, d4, d5⟩, ⟨f0, f1, f2, f3, f4, f5⟩⟩, BB⟩ := HC.out _ bb)) | (go_at_call 105; (with_reducible show Calls _ 105 _ _ _); refine (h3 _).mono ?_; rintro e w1 ⟨rfl, b1⟩; (replace bb := bb.trans (b1.mono bb.size)); (obtain ⟨⟨⟨d0, d1, d2, d3, d4, d5⟩, ⟨f0, f1, f2, f3, f4, f5⟩⟩, BB⟩ := HC.out _ bb)) | (go_at_call 106; (with_reducible show Calls _ 106 _ _ _); refine (h4 _).mono ?_; rintro e w1 ⟨rfl, b1⟩; (replace bb := bb.trans (b1.mono bb.size)); (obtain ⟨⟨⟨d0, d1, d2, d3, d4, d5⟩, ⟨f0, f1, f2, f3, f4, f5⟩⟩, BB⟩ := HC.out _ bb)) | (go_at_call 107; (with_reducible show Calls _ 107 #[.agg #[.int .i64 o, .int .i64 d, .int .i64 a, .int .i64 b, .int .i64 c, .int .u32 x]] _ _); refine (h5 _).mono ?_; rintro e w1 ⟨rfl, b1⟩; (replace bb := bb.trans (b1.mono bb.size)); (obtain ⟨⟨⟨d0, d1, d2, d3, d4, d5⟩, ⟨f0, f1, f2, f3, f4, f5⟩⟩, BB⟩ := HC.out _ bb)) | (go_at_call 107; (with_reducible show Calls _ 107 #[.agg #[.int .i64 o', .int .i64 d', .int .i64 a', .int .i64 b', .int .i64 c', .int .u32 x']] _ _); refine (h6 _).mono ?_; rintro e w1 ⟨rfl, b1⟩; (replace bb := bb.trans (b1.mono bb.size)); (obtain ⟨⟨⟨d0, d1, d2, d3, d4, d5⟩, ⟨f0, f1, f2, f3, f4, f5⟩⟩, BB⟩ := HC.out _ bb)))
      go_ret
      exact ⟨by first | rfl | simp, BB⟩
    cases hS : (o == 7)
    · cases hS2 : (o' == 7)
      · go_enter Tryd.func79, Tryd.ntmps79
        have bb : Below ((w.alloc (.cells #[.int .i64 o, .int .i64 d, .int .i64 a, .int .i64 b, .int .i64 c, .int .u32 x] 35)).alloc (.cells #[.int .i64 o', .int .i64 d', .int .i64 a', .int .i64 b', .int .i64 c', .int .u32 x'] 35)).heap.size ((w.alloc (.cells #[.int .i64 o, .int .i64 d, .int .i64 a, .int .i64 b, .int .i64 c, .int .u32 x] 35)).alloc (.cells #[.int .i64 o', .int .i64 d', .int .i64 a', .int .i64 b', .int .i64 c', .int .u32 x'] 35)) ((w.alloc (.cells #[.int .i64 o, .int .i64 d, .int .i64 a, .int .i64 b, .int .i64 c, .int .u32 x] 35)).alloc (.cells #[.int .i64 o', .int .i64 d', .int .i64 a', .int .i64 b', .int .i64 c', .int .u32 x'] 35)) := Below.refl _ _
        go_wp2_with (first | (go_at_call 62; (with_reducible show Calls _ 62 #[.agg #[.int .i64 o, .int .i64 d, .int .i64 a, .int .i64 b, .int .i64 c, .int .u32 x]] _ _); refine (h1 _).mono ?_; rintro e w1 ⟨rfl, b1⟩; (replace bb := bb.trans (b1.mono bb.size)); (obtain ⟨⟨⟨d0, d1, d2, d3, d4, d5⟩, ⟨f0, f1, f2, f3, f4, f5⟩⟩, BB⟩ := HC.out _ bb)) | (go_at_call 62; (with_reducible show Calls _ 62 #[.agg #[.int .i64 o', .int .i64 d', .int .i64 a', .int .i64 b', .int .i64 c', .int .u32 x']] _ _); refine (h2 _).mono ?_; rintro e w1 ⟨rfl, b1⟩; (replace bb := bb.trans (b1.mono bb.size)); (obtain ⟨⟨⟨d0, d1, d2, d3, d4, d5⟩, ⟨f0, f1, f2, f3, f4, f5⟩⟩, BB⟩ := HC.out _ bb)) | (go_at_call 105; (with_reducible show Calls _ 105 _ _ _); refine (h3 _).mono ?_; rintro e w1 ⟨rfl, b1⟩; (replace bb := bb.trans (b1.mono bb.size)); (obtain ⟨⟨⟨d0, d1, d2, d3, d4, d5⟩, ⟨f0, f1, f2, f3, f4, f5⟩⟩, BB⟩ := HC.out _ bb)) | (go_at_call 106; (with_reducible show Calls _ 106 _ _ _); refine (h4 _).mono ?_; rintro e w1 ⟨rfl, b1⟩; (replace bb := bb.trans (b1.mono bb.size)); (obtain ⟨⟨⟨d0, d1, d2, d3, d4, d5⟩, ⟨f0, f1, f2, f3, f4, f5⟩⟩, BB⟩ := HC.out _ bb)) | (go_at_call 107; (with_reducible show Calls _ 107 #[.agg #[.int .i64 o, .int .i64 d, .int .i64 a, .int .i64 b, .int .i64 c, .int .u32 x]] _ _); refine (h5 _).mono ?_; rintro e w1 ⟨rfl, b1⟩; (replace bb := bb.trans (b1.mono bb.size)); (obtain ⟨⟨⟨d0, d1, d2, d3, d4, d5⟩, ⟨f0, f1, f2, f3, f4, f5⟩⟩, BB⟩ := HC.out _ bb)) | (go_at_call 107; (with_reducible show Calls _ 107 #[.agg #[.int .i64 o', .int .i64 d', .int .i64 a', .int .i64 b', .int .i64 c', .int .u32 x']] _ _); refine (h6 _).mono ?_; rintro e w1 ⟨rfl, b1⟩; (replace bb := bb.trans (b1.mono bb.size)); (obtain ⟨⟨⟨d0, d1, d2, d3, d4, d5⟩, ⟨f0, f1, f2, f3, f4, f5⟩⟩, BB⟩ := HC.out _ bb)))
        go_ret
        exact ⟨by first | rfl | simp, BB⟩
      · go_enter Tryd.func79, Tryd.ntmps79
        have bb : Below ((w.alloc (.cells #[.int .i64 o, .int .i64 d, .int .i64 a, .int .i64 b, .int .i64 c, .int .u32 x] 35)).alloc (.cells #[.int .i64 o', .int .i64 d', .int .i64 a', .int .i64 b', .int .i64 c', .int .u32 x'] 35)).heap.size ((w.alloc (.cells #[.int .i64 o, .int .i64 d, .int .i64 a, .int .i64 b, .int .i64 c, .int .u32 x] 35)).alloc (.cells #[.int .i64 o', .int .i64 d', .int .i64 a', .int .i64 b', .int .i64 c', .int .u32 x'] 35)) ((w.alloc (.cells #[.int .i64 o, .int .i64 d, .int .i64 a, .int .i64 b, .int .i64 c, .int .u32 x] 35)).alloc (.cells #[.int .i64 o', .int .i64 d', .int .i64 a', .int .i64 b', .int .i64 c', .int .u32 x'] 35)) := Below.refl _ _
        go_wp2_with (first | (go_at_call 62; (with_reducible show Calls _ 62 #[.agg #[.int .i64 o, .int .i64 d, .int .i64 a, .int .i64 b, .int .i64 c, .int .u32 x]] _ _); refine (h1 _).mono ?_; rintro e w1 ⟨rfl, b1⟩; (replace bb := bb.trans (b1.mono bb.size)); (obtain ⟨⟨⟨d0, d1, d2, d3, d4, d5⟩, ⟨f0, f1, f2, f3, f4, f5⟩⟩, BB⟩ := HC.out _ bb)) | (go_at_call 62; (with_reducible show Calls _ 62 #[.agg #[.int .i64 o', .int .i64 d', .int .i64 a', .int .i64 b', .int .i64 c', .int .u32 x']] _ _); refine (h2 _).mono ?_; rintro e w1 ⟨rfl, b1⟩; (replace bb := bb.trans (b1.mono bb.size)); (obtain ⟨⟨⟨d0, d1, d2, d3, d4, d5⟩, ⟨f0, f1, f2, f3, f4, f5⟩⟩, BB⟩ := HC.out _ bb)) | (go_at_call 105; (with_reducible show Calls _ 105 _ _ _); refine (h3 _).mono ?_; rintro e w1 ⟨rfl, b1⟩; (replace bb := bb.trans (b1.mono bb.size)); (obtain ⟨⟨⟨d0, d1, d2, d3, d4, d5⟩, ⟨f0, f1, f2, f3, f4, f5⟩⟩, BB⟩ := HC.out _ bb)) | (go_at_call 106; (with_reducible show Calls _ 106 _ _ _); refine (h4 _).mono ?_; rintro e w1 ⟨rfl, b1⟩; (replace bb := bb.trans (b1.mono bb.size)); (obtain ⟨⟨⟨d0, d1, d2, d3, d4, d5⟩, ⟨f0, f1, f2, f3, f4, f5⟩⟩, BB⟩ := HC.out _ bb)) | (go_at_call 107; (with_reducible show Calls _ 107 #[.agg #[.int .i64 o, .int .i64 d, .int .i64 a, .int .i64 b, .int .i64 c, .int .u32 x]] _ _); refine (h5 _).mono ?_; rintro e w1 ⟨rfl, b1⟩; (replace bb := bb.trans (b1.mono bb.size)); (obtain ⟨⟨⟨d0, d1, d2, d3, d4, d5⟩, ⟨f0, f1, f2, f3, f4, f5⟩⟩, BB⟩ := HC.out _ bb)) | (go_at_call 107; (with_reducible show Calls _ 107 #[.agg #[.int .i64 o', .int .i64 d', .int .i64 a', .int .i64 b', .int .i64 c', .int .u32 x']] _ _); refine (h6 _).mono ?_; rintro e w1 ⟨rfl, b1⟩; (replace bb := bb.trans (b1.mono bb.size)); (obtain ⟨⟨⟨d0, d1, d2, d3, d4, d5⟩, ⟨f0, f1, f2, f3, f4, f5⟩⟩, BB⟩ := HC.out _ bb)))
        go_ret
        exact ⟨by first | rfl | simp, BB⟩
    · go_enter Tryd.func79, Tryd.ntmps79
      have bb : Below ((w.alloc (.cells #[.int .i64 o, .int .i64 d, .int .i64 a, .int .i64 b, .int .i64 c, .int .u32 x] 35)).alloc (.cells #[.int .i64 o', .int .i64 d', .int .i64 a', .int .i64 b', .int .i64 c', .int .u32 x'] 35)).heap.size ((w.alloc (.cells #[.int .i64 o, .int .i64 d, .int .i64 a, .int .i64 b, .int .i64 c, .int .u32 x] 35)).alloc (.cells #[.int .i64 o', .int .i64 d', .int .i64 a', .int .i64 b', .int .i64 c', .int .u32 x'] 35)) ((w.alloc (.cells #[.int .i64 o, .int .i64 d, .int .i64 a, .int .i64 b, .int .i64 c, .int .u32 x] 35)).alloc (.cells #[.int .i64 o', .int .i64 d', .int .i64 a', .int .i64 b', .int .i64 c', .int .u32 x'] 35)) := Below.refl _ _
      go_wp2_with (first | (go_at_call 62; (with_reducible show Calls _ 62 #[.agg #[.int .i64 o, .int .i64 d, .int .i64 a, .int .i64 b, .int .i64 c, .int .u32 x]] _ _); refine (h1 _).mono ?_; rintro e w1 ⟨rfl, b1⟩; (replace bb := bb.trans (b1.mono bb.size)); (obtain ⟨⟨⟨d0, d1, d2, d3, d4, d5⟩, ⟨f0, f1, f2, f3, f4, f5⟩⟩, BB⟩ := HC.out _ bb)) | (go_at_call 62; (with_reducible show Calls _ 62 #[.agg #[.int .i64 o', .int .i64 d', .int .i64 a', .int .i64 b', .int .i64 c', .int .u32 x']] _ _); refine (h2 _).mono ?_; rintro e w1 ⟨rfl, b1⟩; (replace bb := bb.trans (b1.mono bb.size)); (obtain ⟨⟨⟨d0, d1, d2, d3, d4, d5⟩, ⟨f0, f1, f2, f3, f4, f5⟩⟩, BB⟩ := HC.out _ bb)) | (go_at_call 105; (with_reducible show Calls _ 105 _ _ _); refine (h3 _).mono ?_; rintro e w1 ⟨rfl, b1⟩; (replace bb := bb.trans (b1.mono bb.size)); (obtain ⟨⟨⟨d0, d1, d2, d3, d4, d5⟩, ⟨f0, f1, f2, f3, f4, f5⟩⟩, BB⟩ := HC.out _ bb)) | (go_at_call 106; (with_reducible show Calls _ 106 _ _ _); refine (h4 _).mono ?_; rintro e w1 ⟨rfl, b1⟩; (replace bb := bb.trans (b1.mono bb.size)); (obtain ⟨⟨⟨d0, d1, d2, d3, d4, d5⟩, ⟨f0, f1, f2, f3, f4, f5⟩⟩, BB⟩ := HC.out _ bb)) | (go_at_call 107; (with_reducible show Calls _ 107 #[.agg #[.int .i64 o, .int .i64 d, .int .i64 a, .int .i64 b, .int .i64 c, .int .u32 x]] _ _); refine (h5 _).mono ?_; rintro e w1 ⟨rfl, b1⟩; (replace bb := bb.trans (b1.mono bb.size)); (obtain ⟨⟨⟨d0, d1, d2, d3, d4, d5⟩, ⟨f0, f1, f2, f3, f4, f5⟩⟩, BB⟩ := HC.out _ bb)) | (go_at_call 107; (with_reducible show Calls _ 107 #[.agg #[.int .i64 o', .int .i64 d', .int .i64 a', .int .i64 b', .int .i64 c', .int .u32 x']] _ _); refine (h6 _).mono ?_; rintro e w1 ⟨rfl, b1⟩; (replace bb := bb.trans (b1.mono bb.size)); (obtain ⟨⟨⟨d0, d1, d2, d3, d4, d5⟩, ⟨f0, f1, f2, f3, f4, f5⟩⟩, BB⟩ := HC.out _ bb)))
      go_ret
      exact ⟨by first | rfl | simp, BB⟩
  · have he : ((if nmd o 0 = true then d else -1) == d') = true := by
      simp only [Bool.and_eq_true] at hq
      rw [if_pos hq.1]; exact hq.2
    generalize (if nmd o 0 = true then d else -1) = dv at h1 he
    clear hq
    go_enter Tryd.func79, Tryd.ntmps79
    have bb : Below ((w.alloc (.cells #[.int .i64 o, .int .i64 d, .int .i64 a, .int .i64 b, .int .i64 c, .int .u32 x] 35)).alloc (.cells #[.int .i64 o', .int .i64 d', .int .i64 a', .int .i64 b', .int .i64 c', .int .u32 x'] 35)).heap.size ((w.alloc (.cells #[.int .i64 o, .int .i64 d, .int .i64 a, .int .i64 b, .int .i64 c, .int .u32 x] 35)).alloc (.cells #[.int .i64 o', .int .i64 d', .int .i64 a', .int .i64 b', .int .i64 c', .int .u32 x'] 35)) ((w.alloc (.cells #[.int .i64 o, .int .i64 d, .int .i64 a, .int .i64 b, .int .i64 c, .int .u32 x] 35)).alloc (.cells #[.int .i64 o', .int .i64 d', .int .i64 a', .int .i64 b', .int .i64 c', .int .u32 x'] 35)) := Below.refl _ _
    go_wp2_with (first | (go_at_call 62; (with_reducible show Calls _ 62 #[.agg #[.int .i64 o, .int .i64 d, .int .i64 a, .int .i64 b, .int .i64 c, .int .u32 x]] _ _); refine (h1 _).mono ?_; rintro e w1 ⟨rfl, b1⟩; (replace bb := bb.trans (b1.mono bb.size)); (obtain ⟨⟨⟨d0, d1, d2, d3, d4, d5⟩, ⟨f0, f1, f2, f3, f4, f5⟩⟩, BB⟩ := HC.out _ bb)) | (go_at_call 62; (with_reducible show Calls _ 62 #[.agg #[.int .i64 o', .int .i64 d', .int .i64 a', .int .i64 b', .int .i64 c', .int .u32 x']] _ _); refine (h2 _).mono ?_; rintro e w1 ⟨rfl, b1⟩; (replace bb := bb.trans (b1.mono bb.size)); (obtain ⟨⟨⟨d0, d1, d2, d3, d4, d5⟩, ⟨f0, f1, f2, f3, f4, f5⟩⟩, BB⟩ := HC.out _ bb)) | (go_at_call 105; (with_reducible show Calls _ 105 _ _ _); refine (h3 _).mono ?_; rintro e w1 ⟨rfl, b1⟩; (replace bb := bb.trans (b1.mono bb.size)); (obtain ⟨⟨⟨d0, d1, d2, d3, d4, d5⟩, ⟨f0, f1, f2, f3, f4, f5⟩⟩, BB⟩ := HC.out _ bb)) | (go_at_call 106; (with_reducible show Calls _ 106 _ _ _); refine (h4 _).mono ?_; rintro e w1 ⟨rfl, b1⟩; (replace bb := bb.trans (b1.mono bb.size)); (obtain ⟨⟨⟨d0, d1, d2, d3, d4, d5⟩, ⟨f0, f1, f2, f3, f4, f5⟩⟩, BB⟩ := HC.out _ bb)) | (go_at_call 107; (with_reducible show Calls _ 107 #[.agg #[.int .i64 o, .int .i64 d, .int .i64 a, .int .i64 b, .int .i64 c, .int .u32 x]] _ _); refine (h5 _).mono ?_; rintro e w1 ⟨rfl, b1⟩; (replace bb := bb.trans (b1.mono bb.size)); (obtain ⟨⟨⟨d0, d1, d2, d3, d4, d5⟩, ⟨f0, f1, f2, f3, f4, f5⟩⟩, BB⟩ := HC.out _ bb)) | (go_at_call 107; (with_reducible show Calls _ 107 #[.agg #[.int .i64 o', .int .i64 d', .int .i64 a', .int .i64 b', .int .i64 c', .int .u32 x']] _ _); refine (h6 _).mono ?_; rintro e w1 ⟨rfl, b1⟩; (replace bb := bb.trans (b1.mono bb.size)); (obtain ⟨⟨⟨d0, d1, d2, d3, d4, d5⟩, ⟨f0, f1, f2, f3, f4, f5⟩⟩, BB⟩ := HC.out _ bb)))
    go_ret
    exact ⟨by first | rfl | simp, BB⟩

end Go.Proofs.YtcgapochcahknaaDoor
