/- LatencyOf of both sides. -/
import Derived.Test.YtcgapochcahknaaDoorGd
import Derived.Test.YtcgapochcahknaaDoorGi
import Derived.Test.YtcgapochcahknaaDoorRdt
import Derived.Deep.RegionWith
namespace Go.Proofs.YtcgapochcahknaaDoor
open Go.ChangeShapes Go.WideShapes Go.ChangeAt Go.RowKit
set_option linter.unusedVariables false
theorem Hid.mk {p : Prop} (h : p) : Hid p := h
/-- `/` and `%`. -/
def isQ (s : ByteArray) : Bool := s.toList == [47] || s.toList == [37]
/-- How many cycles behind its issue what an instruction as said writes can be read. -/
def latV (o x : Int) : Int := if o = 6 then 8 else if o = 4 then 6 else if o = 3 then (if x % 4 = 2 then 4 else if x % 4 = 1 ∧ isQ (sgnW x) = true then 6 else 1) else 1
theorem latV_bd (o x : Int) : 1 ≤ latV o x ∧ latV o x ≤ 8 := by
  unfold latV
  repeat' split
  all_goals decide
/-- .. nought of what is not as said. -/
def laV (o d a b c x : Int) : Int := if goodI o d a b c x 600 then latV o x else 0
theorem good_sgn {o d a b c x : Int} (x0 : 0 ≤ x) (x1 : x < 4294967296) (h : goodI o d a b c x 600 = true) : o = 3 → x / 4 < 30 := fun e => by
  subst e
  rw [goodI_3 d a b c x 600 x0 x1] at h
  simp only [Bool.and_eq_true, signOk, decide_eq_true_eq] at h
  have h1 := h.2.1
  by_cases k : x / 4 < 30
  · exact k
  · rw [show st (sgnW x) = 0 by unfold sgnW; rw [textAt_beyond _ _ (by show 30 ≤ _; omega)]; exact st_empty] at h1
    omega
theorem good_op {o d a b c x n : Int} (h : goodI o d a b c x n = true) : 1 ≤ o ∧ o ≤ 13 := by
  rcases op_cases o with k | k
  · exact k
  · rw [goodI_off o d a b c x n k] at h; exact absurd h (by decide)
theorem ins_blk (w : World) (o d a b c x : Int) (v : World) (k : Below (w.alloc (.cells #[.int .i64 o, .int .i64 d, .int .i64 a, .int .i64 b, .int .i64 c, .int .u32 x] 35)).heap.size (w.alloc (.cells #[.int .i64 o, .int .i64 d, .int .i64 a, .int .i64 b, .int .i64 c, .int .u32 x] 35)) v) : (v.cell? ⟨w.heap.size, 0, none⟩ = some (.int .i64 o) ∧ v.cell? ⟨w.heap.size, 1, none⟩ = some (.int .i64 d) ∧ v.cell? ⟨w.heap.size, 2, none⟩ = some (.int .i64 a) ∧ v.cell? ⟨w.heap.size, 3, none⟩ = some (.int .i64 b) ∧ v.cell? ⟨w.heap.size, 4, none⟩ = some (.int .i64 c) ∧ v.cell? ⟨w.heap.size, 5, none⟩ = some (.int .u32 x)) ∧ Below w.heap.size w v := by
  have ql : w.heap.size < (w.alloc (.cells #[.int .i64 o, .int .i64 d, .int .i64 a, .int .i64 b, .int .i64 c, .int .u32 x] 35)).heap.size := by simp
  have BW : Below w.heap.size w (w.alloc (.cells #[.int .i64 o, .int .i64 d, .int .i64 a, .int .i64 b, .int .i64 c, .int .u32 x] 35)) := (Below.refl _ _).alloc (Nat.le_refl _) _
  refine ⟨⟨?_, ?_, ?_, ?_, ?_, ?_⟩, BW.trans (k.mono BW.size)⟩
  all_goals
    rw [k.cell (p := ⟨w.heap.size, _, none⟩) ql]
    simp
set_option maxRecDepth 100000 in
set_option maxHeartbeats 2000000 in
theorem mlat (o d a b c x : Int) (w : World) (x0 : 0 ≤ x) (x1 : x < 4294967296) (h3 : o = 3 → x / 4 < 30) : Calls Tryd.prog 39 #[.agg #[.int .i64 o, .int .i64 d, .int .i64 a, .int .i64 b, .int .i64 c, .int .u32 x]] w fun e w' => e = .returned (.int .i64 (latV o x)) ∧ Below w.heap.size w w' := by
  have BW : Below w.heap.size w (w.alloc (.cells #[.int .i64 o, .int .i64 d, .int .i64 a, .int .i64 b, .int .i64 c, .int .u32 x] 35)) := (Below.refl _ _).alloc (Nat.le_refl _) _
  have HC := Hid.mk (ins_blk w o d a b c x)
  by_cases o6 : o = 6
  · subst o6
    go_enter Tryd.func39, Tryd.ntmps39
    go_wp2
    go_ret
    exact ⟨rfl, BW⟩
  by_cases o4 : o = 4
  · subst o4
    go_enter Tryd.func39, Tryd.ntmps39
    go_wp2
    go_ret
    exact ⟨rfl, BW⟩
  by_cases o3 : o = 3
  · subst o3
    have k30 := h3 rfl
    have zx2 : 0 ≤ x / 4 := by omega
    have zx4 : 0 ≤ x % 4 := by omega
    have zx5 : x % 4 < 4 := by omega
    have t1 : x.tdiv 4 = x / 4 := Int.tdiv_eq_ediv_of_nonneg x0
    have t2 : IntKind.u32.wrap (x / 4) = x / 4 := by simp [IntKind.wrap, IntKind.bits, IntKind.signed]; omega
    have HL : Hid (latV 3 x = if x % 4 = 2 then 4 else if x % 4 = 1 ∧ isQ (textAt signsL (x / 4).toNat) = true then 6 else 1) := rfl
    rw [HL.out]
    generalize hsg : textAt signsL (x / 4).toNat = sg
    have HSG : Hid (textAt signsL (x / 4).toNat = sg) := hsg
    have HQ : Hid (isQ sg = (sg.toList == [47] || sg.toList == [37])) := rfl
    clear hsg HL h3 o6 o4
    by_cases y2 : x % 4 = 2
    · have z2 : (x % 4 == 2) = true := by simp [y2]
      rw [if_pos y2]
      clear y2
      go_enter Tryd.func39, Tryd.ntmps39
      go_wp2
      go_region_with (go_at_call 70; refine (signs53 _).mono ?_; rintro e w3 ⟨rfl, O3, b3⟩; (have b4 : Below (w.alloc (.cells #[.int .i64 3, .int .i64 d, .int .i64 a, .int .i64 b, .int .i64 c, .int .u32 x] 35)).heap.size (w.alloc (.cells #[.int .i64 3, .int .i64 d, .int .i64 a, .int .i64 b, .int .i64 c, .int .u32 x] 35)) w3 := by first | exact b3 | exact (below_drew (Below.refl _ _)).trans b3); (obtain ⟨⟨d0, d1, d2, d3, d4, d5⟩, B3⟩ := HC.out _ b4); (have cc : World.cell? w3 ⟨w.heap.size + 1, (x / 4).toNat, none⟩ = some (.string sg) := by (have cc0 := O3.cell (x / 4).toNat (by omega)); rw [← HSG.out]; simpa using cc0))
      all_goals
        go_wp2
        go_ret
        exact ⟨rfl, B3⟩
    have z2 : (x % 4 == 2) = false := by simp [y2]
    rw [if_neg y2]
    clear y2
    by_cases y1 : x % 4 = 1
    · have z1 : (x % 4 == 1) = true := by simp [y1]
      cases q1 : (sg.toList == [47])
      · cases q2 : (sg.toList == [37])
        · rw [if_neg (by rw [HQ.out, q1, q2]; simp)]
          clear y1
          go_enter Tryd.func39, Tryd.ntmps39
          go_wp2
          go_region_with (go_at_call 70; refine (signs53 _).mono ?_; rintro e w3 ⟨rfl, O3, b3⟩; (have b4 : Below (w.alloc (.cells #[.int .i64 3, .int .i64 d, .int .i64 a, .int .i64 b, .int .i64 c, .int .u32 x] 35)).heap.size (w.alloc (.cells #[.int .i64 3, .int .i64 d, .int .i64 a, .int .i64 b, .int .i64 c, .int .u32 x] 35)) w3 := by first | exact b3 | exact (below_drew (Below.refl _ _)).trans b3); (obtain ⟨⟨d0, d1, d2, d3, d4, d5⟩, B3⟩ := HC.out _ b4); (have cc : World.cell? w3 ⟨w.heap.size + 1, (x / 4).toNat, none⟩ = some (.string sg) := by (have cc0 := O3.cell (x / 4).toNat (by omega)); rw [← HSG.out]; simpa using cc0))
          all_goals
            go_wp2
            go_ret
            exact ⟨rfl, B3⟩
        · rw [if_pos ⟨y1, by rw [HQ.out, q1, q2]; simp⟩]
          clear y1
          go_enter Tryd.func39, Tryd.ntmps39
          go_wp2
          go_region_with (go_at_call 70; refine (signs53 _).mono ?_; rintro e w3 ⟨rfl, O3, b3⟩; (have b4 : Below (w.alloc (.cells #[.int .i64 3, .int .i64 d, .int .i64 a, .int .i64 b, .int .i64 c, .int .u32 x] 35)).heap.size (w.alloc (.cells #[.int .i64 3, .int .i64 d, .int .i64 a, .int .i64 b, .int .i64 c, .int .u32 x] 35)) w3 := by first | exact b3 | exact (below_drew (Below.refl _ _)).trans b3); (obtain ⟨⟨d0, d1, d2, d3, d4, d5⟩, B3⟩ := HC.out _ b4); (have cc : World.cell? w3 ⟨w.heap.size + 1, (x / 4).toNat, none⟩ = some (.string sg) := by (have cc0 := O3.cell (x / 4).toNat (by omega)); rw [← HSG.out]; simpa using cc0))
          all_goals
            go_wp2
            go_ret
            exact ⟨rfl, B3⟩
      · rw [if_pos ⟨y1, by rw [HQ.out, q1]; simp⟩]
        clear y1
        go_enter Tryd.func39, Tryd.ntmps39
        go_wp2
        go_region_with (go_at_call 70; refine (signs53 _).mono ?_; rintro e w3 ⟨rfl, O3, b3⟩; (have b4 : Below (w.alloc (.cells #[.int .i64 3, .int .i64 d, .int .i64 a, .int .i64 b, .int .i64 c, .int .u32 x] 35)).heap.size (w.alloc (.cells #[.int .i64 3, .int .i64 d, .int .i64 a, .int .i64 b, .int .i64 c, .int .u32 x] 35)) w3 := by first | exact b3 | exact (below_drew (Below.refl _ _)).trans b3); (obtain ⟨⟨d0, d1, d2, d3, d4, d5⟩, B3⟩ := HC.out _ b4); (have cc : World.cell? w3 ⟨w.heap.size + 1, (x / 4).toNat, none⟩ = some (.string sg) := by (have cc0 := O3.cell (x / 4).toNat (by omega)); rw [← HSG.out]; simpa using cc0))
        all_goals
          go_wp2
          go_ret
          exact ⟨rfl, B3⟩
    · have z1 : (x % 4 == 1) = false := by simp [y1]
      rw [if_neg (fun q => y1 q.1)]
      clear y1
      go_enter Tryd.func39, Tryd.ntmps39
      go_wp2
      go_region_with (go_at_call 70; refine (signs53 _).mono ?_; rintro e w3 ⟨rfl, O3, b3⟩; (have b4 : Below (w.alloc (.cells #[.int .i64 3, .int .i64 d, .int .i64 a, .int .i64 b, .int .i64 c, .int .u32 x] 35)).heap.size (w.alloc (.cells #[.int .i64 3, .int .i64 d, .int .i64 a, .int .i64 b, .int .i64 c, .int .u32 x] 35)) w3 := by first | exact b3 | exact (below_drew (Below.refl _ _)).trans b3); (obtain ⟨⟨d0, d1, d2, d3, d4, d5⟩, B3⟩ := HC.out _ b4); (have cc : World.cell? w3 ⟨w.heap.size + 1, (x / 4).toNat, none⟩ = some (.string sg) := by (have cc0 := O3.cell (x / 4).toNat (by omega)); rw [← HSG.out]; simpa using cc0))
      all_goals
        go_wp2
        go_ret
        exact ⟨rfl, B3⟩
  have HL : Hid (latV o x = 1) := by show latV o x = 1; unfold latV; rw [if_neg o6, if_neg o4, if_neg o3]
  rw [HL.out]
  have e6 : (o == 6) = false := by simp [o6]
  have e4 : (o == 4) = false := by simp [o4]
  have e3 : (o == 3) = false := by simp [o3]
  clear o6 o4 o3 h3
  go_enter Tryd.func39, Tryd.ntmps39
  go_wp2
  go_ret
  exact ⟨rfl, BW⟩
set_option maxRecDepth 100000 in
set_option maxHeartbeats 2000000 in
theorem mlatency (o d a b c x : Int) (w : World) (x0 : 0 ≤ x) (x1 : x < 4294967296) : Calls Tryd.prog 16 #[.agg #[.int .i64 o, .int .i64 d, .int .i64 a, .int .i64 b, .int .i64 c, .int .u32 x]] w fun e w' => e = .returned (.int .i64 (laV o d a b c x)) ∧ Below w.heap.size w w' := by
  have HC := Hid.mk (ins_blk w o d a b c x)
  have h38 := fun v => lg31 o d a b c x 600 v x0 x1 (by decide) (by decide)
  have HL : Hid (laV o d a b c x = if goodI o d a b c x 600 then latV o x else 0) := rfl
  rw [HL.out]
  cases hg : goodI o d a b c x 600
  · rw [hg] at h38
    simp only [Bool.false_eq_true, if_false]
    go_enter Tryd.func16, Tryd.ntmps16
    go_wp2_with (go_at_call 38; refine (h38 _).mono ?_; rintro e w1 ⟨rfl, b1⟩; (obtain ⟨⟨d0, d1, d2, d3, d4, d5⟩, B1⟩ := HC.out _ b1))
    go_ret
    exact ⟨rfl, B1⟩
  · rw [hg] at h38
    simp only [if_true]
    have h39 := fun v => mlat o d a b c x v x0 x1 (good_sgn x0 x1 hg)
    clear hg
    go_enter Tryd.func16, Tryd.ntmps16
    go_wp2_with (first | (go_at_call 38; refine (h38 _).mono ?_; rintro e w1 ⟨rfl, b1⟩; (obtain ⟨⟨d0, d1, d2, d3, d4, d5⟩, B1⟩ := HC.out _ b1)) | (go_at_call 39; refine (h39 _).mono ?_; rintro e w2 ⟨rfl, B2⟩))
    go_ret
    exact ⟨rfl, B1.trans (B2.mono B1.size)⟩
set_option maxRecDepth 100000 in
theorem isquot (s : ByteArray) (w : World) : Calls Tryd.prog 42 #[.string s] w fun e w' => e = .returned (.bool (isQ s)) ∧ w' = w := by
  have HQ : Hid (isQ s = (s.toList == [47] || s.toList == [37])) := rfl
  rw [HQ.out]
  cases q1 : (s.toList == [47])
  all_goals
    cases q2 : (s.toList == [37])
    all_goals
      go_enter Tryd.func42, Tryd.ntmps42
      go_wp2
      go_ret
      exact ⟨rfl, rfl⟩
set_option maxRecDepth 100000 in
set_option maxHeartbeats 4000000 in
theorem platency (o d a b c x : Int) (w : World) (G : Forms w) (x0 : 0 ≤ x) (x1 : x < 4294967296) : Calls Tryd.prog 18 #[.agg #[.int .i64 o, .int .i64 d, .int .i64 a, .int .i64 b, .int .i64 c, .int .u32 x]] w fun e w' => e = .returned (.int .i64 (laV o d a b c x)) ∧ Below w.heap.size w w' := by
  have BW : Below w.heap.size w (w.alloc (.cells #[.int .i64 o, .int .i64 d, .int .i64 a, .int .i64 b, .int .i64 c, .int .u32 x] 35)) := (Below.refl _ _).alloc (Nat.le_refl _) _
  have HC := Hid.mk (ins_blk w o d a b c x)
  have h40 := Hid.mk (good33 o d a b c x 600 _ (G.below BW) x0 x1 (by decide) (by decide))
  have h41 := fun v => kind60 x v x0 x1
  have h43 := fun v => sign59 x v x0 x1
  have h42 := fun v => isquot (sgnW x) v
  have HL : Hid (laV o d a b c x = if goodI o d a b c x 600 then latV o x else 0) := rfl
  rw [HL.out]
  generalize hg : goodI o d a b c x 600 = g at h40
  clear hg
  cases g
  · simp only [Bool.false_eq_true, if_false]
    go_enter Tryd.func18, Tryd.ntmps18
    go_wp2_with (go_at_call 40; refine h40.out.mono ?_; rintro e w1 ⟨rfl, B1⟩; (obtain ⟨⟨d0, d1, d2, d3, d4, d5⟩, B2⟩ := HC.out _ B1))
    go_ret
    exact ⟨rfl, B2⟩
  simp only [if_true]
  by_cases o6 : o = 6
  · subst o6
    go_enter Tryd.func18, Tryd.ntmps18
    go_wp2_with (go_at_call 40; refine h40.out.mono ?_; rintro e w1 ⟨rfl, B1⟩; (obtain ⟨⟨d0, d1, d2, d3, d4, d5⟩, B2⟩ := HC.out _ B1))
    go_ret
    exact ⟨rfl, B2⟩
  by_cases o4 : o = 4
  · subst o4
    go_enter Tryd.func18, Tryd.ntmps18
    go_wp2_with (go_at_call 40; refine h40.out.mono ?_; rintro e w1 ⟨rfl, B1⟩; (obtain ⟨⟨d0, d1, d2, d3, d4, d5⟩, B2⟩ := HC.out _ B1))
    go_ret
    exact ⟨rfl, B2⟩
  by_cases o3 : o = 3
  · subst o3
    have HL2 : Hid (latV 3 x = if x % 4 = 2 then 4 else if x % 4 = 1 ∧ isQ (sgnW x) = true then 6 else 1) := rfl
    rw [HL2.out]
    generalize sgnW x = sg at h42 h43 ⊢
    generalize isQ sg = iq at h42 ⊢
    by_cases y2 : x % 4 = 2
    · rw [if_pos y2]
      rw [y2] at h41
      clear y2
      go_enter Tryd.func18, Tryd.ntmps18
      go_wp2_with (first | (go_at_call 40; refine h40.out.mono ?_; rintro e w1 ⟨rfl, B1⟩; (obtain ⟨⟨d0, d1, d2, d3, d4, d5⟩, B2⟩ := HC.out _ B1)) | (go_at_call 41; refine (h41 _).mono ?_; rintro e w2 ⟨rfl, hw⟩; subst w2))
      go_ret
      exact ⟨rfl, B2⟩
    rw [if_neg y2]
    have z2 : (x % 4 == 2) = false := by simp [y2]
    by_cases y1 : x % 4 = 1
    · cases iq
      · rw [if_neg (by simp)]
        rw [y1] at h41
        clear y2 y1 z2
        go_enter Tryd.func18, Tryd.ntmps18
        go_wp2_with (first | (go_at_call 40; refine h40.out.mono ?_; rintro e w1 ⟨rfl, B1⟩; (obtain ⟨⟨d0, d1, d2, d3, d4, d5⟩, B2⟩ := HC.out _ B1)) | (go_at_call 41; refine (h41 _).mono ?_; rintro e w2 ⟨rfl, hw⟩; subst w2) | (go_at_call 43; refine (h43 _).mono ?_; rintro e w3 ⟨rfl, B3⟩) | (go_at_call 42; refine (h42 _).mono ?_; rintro e w4 ⟨rfl, hw⟩; subst w4))
        go_ret
        exact ⟨rfl, B2.trans (B3.mono B2.size)⟩
      · rw [if_pos ⟨y1, rfl⟩]
        rw [y1] at h41
        clear y2 y1 z2
        go_enter Tryd.func18, Tryd.ntmps18
        go_wp2_with (first | (go_at_call 40; refine h40.out.mono ?_; rintro e w1 ⟨rfl, B1⟩; (obtain ⟨⟨d0, d1, d2, d3, d4, d5⟩, B2⟩ := HC.out _ B1)) | (go_at_call 41; refine (h41 _).mono ?_; rintro e w2 ⟨rfl, hw⟩; subst w2) | (go_at_call 43; refine (h43 _).mono ?_; rintro e w3 ⟨rfl, B3⟩) | (go_at_call 42; refine (h42 _).mono ?_; rintro e w4 ⟨rfl, hw⟩; subst w4))
        go_ret
        exact ⟨rfl, B2.trans (B3.mono B2.size)⟩
    · rw [if_neg (fun q => y1 q.1)]
      have z1 : (x % 4 == 1) = false := by simp [y1]
      generalize x % 4 = xm at h41 z1 z2
      clear y1 y2
      go_enter Tryd.func18, Tryd.ntmps18
      go_wp2_with (first | (go_at_call 40; refine h40.out.mono ?_; rintro e w1 ⟨rfl, B1⟩; (obtain ⟨⟨d0, d1, d2, d3, d4, d5⟩, B2⟩ := HC.out _ B1)) | (go_at_call 41; refine (h41 _).mono ?_; rintro e w2 ⟨rfl, hw⟩; subst w2))
      go_ret
      exact ⟨rfl, B2⟩
  have HL2 : Hid (latV o x = 1) := by show latV o x = 1; unfold latV; rw [if_neg o6, if_neg o4, if_neg o3]
  rw [HL2.out]
  have e6 : (o == 6) = false := by simp [o6]
  have e4 : (o == 4) = false := by simp [o4]
  have e3 : (o == 3) = false := by simp [o3]
  clear o6 o4 o3
  go_enter Tryd.func18, Tryd.ntmps18
  go_wp2_with (go_at_call 40; refine h40.out.mono ?_; rintro e w1 ⟨rfl, B1⟩; (obtain ⟨⟨d0, d1, d2, d3, d4, d5⟩, B2⟩ := HC.out _ B1))
  go_ret
  exact ⟨rfl, B2⟩
end Go.Proofs.YtcgapochcahknaaDoor
