/- The program's common, meet, meetInBuffer, outsideRows, waitFor. -/
import Derived.Test.YtcgapochcahknaaDoorMkr
import Derived.Test.YtcgapochcahknaaDoorRdp
import Derived.Test.YtcgapochcahknaaDoorBgm
namespace Go.Proofs.YtcgapochcahknaaDoor
open Go.ChangeShapes Go.WideShapes Go.ChangeAt Go.RowKit
set_option linter.unusedVariables false
/-- Whether two lists have something in common. -/
def mtB (L M : List Int) : Bool := L.any fun x => decide (x ∈ M)
def cmL (L M : List Int) : List Int := L.filter fun x => decide (x ∈ M)
theorem cmL_len (L M : List Int) : (cmL L M).length ≤ L.length := List.length_filter_le _ _
theorem cmL_mt (L M : List Int) : decide (0 < (cmL L M).length) = mtB L M := by
  rw [Bool.eq_iff_iff, decide_eq_true_eq]
  unfold cmL mtB
  rw [List.any_eq_true]
  constructor
  · intro h
    obtain ⟨x, hx⟩ := List.exists_mem_of_length_pos h
    rw [List.mem_filter] at hx
    exact ⟨x, hx.1, hx.2⟩
  · rintro ⟨x, h1, h2⟩
    exact List.length_pos_of_mem (List.mem_filter.2 ⟨h1, h2⟩)
theorem cmL_take (M L : List Int) (k : Nat) (hk : k < L.length) : cmL (L.take (k + 1)) M = cmL (L.take k) M ++ (if decide (L.getD k 0 ∈ M) then [L.getD k 0] else []) := by
  unfold cmL
  rw [take_snoc L k hk, List.filter_append]
  congr 1
  cases h : decide (L.getD k 0 ∈ M)
  · simp only [List.filter, h, Bool.false_eq_true, if_false]
  · simp only [List.filter, h, if_true]
set_option maxRecDepth 100000 in
theorem search (v : Value) (M : List Int) (x : Int) (w : World) (hm : M.length ≤ 5000) (hs : M.Pairwise (· < ·)) (hM : ARow w v M) : Calls Tryd.prog 123 #[v, .int .i64 x] w fun e w' => (∃ z, e = .returned (.tuple #[.int .i64 z, .bool (decide (x ∈ M))])) ∧ ∃ q, w' = w.drewN q := by
  obtain ⟨ad, cp, rfl, hc⟩ := hM
  by_cases h0 : M = []
  · subst h0
    refine (Tryd.slices_BinarySearch_int_empty ad cp x w).mono ?_
    rintro e w' ⟨rfl, rfl⟩
    exact ⟨⟨0, by simp⟩, 0, rfl⟩
  · have hl : 0 < M.length := List.length_pos_iff.2 h0
    obtain ⟨g, o, rfl, _⟩ := hc 0 hl
    refine (Tryd.slices_BinarySearch_int g o M.length cp M x w (Nat.le_refl _) (by omega) (fun j hj => ?_) ?_).mono ?_
    · obtain ⟨g', o', e, c2⟩ := hc j hj
      injection e with e
      injection e with e1 e2
      subst e1 e2
      exact c2
    · rw [List.take_length]
      exact hs.imp (fun h => by omega)
    · rintro e w' ⟨rfl, q, rfl⟩
      have hb : (M.take M.length).contains x = decide (x ∈ M) := by rw [List.take_length, Bool.eq_iff_iff, decide_eq_true_eq, List.contains_iff_mem]
      exact ⟨⟨(((M.take M.length).countP (fun y => decide (y < x)) : Nat) : Int), by rw [hb]⟩, q, rfl⟩
set_option maxRecDepth 100000 in
set_option maxHeartbeats 4000000 in
theorem common (u v : Value) (L M : List Int) (w : World) (hn : L.length ≤ 5000) (hm : M.length ≤ 5000) (hs : M.Pairwise (· < ·)) (hL : ARow w u L) (hM : ARow w v M) : Calls Tryd.prog 119 #[u, v] w fun e w' => ∃ z, e = .returned z ∧ IOwn w.heap.size w' z (cmL L M) ∧ Below w.heap.size w w' := by
  obtain ⟨i3, hi3, hz30, hz31, hz32⟩ := info_parts info3
  obtain ⟨ad, cp, rfl, hc⟩ := hL
  have HL := Hid.mk hc
  have HS : Hid (∀ v', Below w.heap.size w v' → ∀ x, Calls Tryd.prog 123 #[v, .int .i64 x] v' fun e w' => (∃ z, e = .returned (.tuple #[.int .i64 z, .bool (decide (x ∈ M))])) ∧ ∃ q, w' = v'.drewN q) := fun v' b x => search v M x v' hm hs (hM.next b)
  obtain ⟨n, hn2⟩ : ∃ n, L.length = n := ⟨_, rfl⟩
  have HN : Hid (L.length = n) := hn2
  rw [hn2] at hn ⊢
  have HE : Hid (cmL (L.take n) M = cmL L M) := by show _ = _; rw [List.take_of_length_le (by omega)]
  clear hn2 hc hM hs
  go_enter Tryd.func119, Tryd.ntmps119
  go_wp2
  go_loopw [5, 12] (fun vv i wr => ∃ (k : Nat) (u : Value), k ≤ n ∧ i = .int .i64 k ∧ u = vv ∧ Hid (Ri w.heap.size wr u (cmL (L.take k) M)) ∧ Hid (Below w.heap.size w wr)) (fun _ i _ => n - (intOf i).toNat)
  case atStart => exact ⟨0, _, by omega, rfl, rfl, ⟨World.ownsRow_nil _ _ _ _, Nat.le_refl _⟩, Below.refl _ _⟩
  case round =>
    obtain ⟨k, u, hk, rfl, rfl, HU, HB⟩ := hrel
    by_cases hkn : k < n
    · have i1 : (k : Int) < (n : Int) := by omega
      have i0 : (0 : Int) ≤ (k : Int) := by omega
      have hkl : k < L.length := by rw [HN.out]; exact hkn
      obtain ⟨g, o, rfl, ck0⟩ := HL.out k hkl
      have ck := cell_nx ck0 HB.out
      have HC : Hid (cmL (L.take (k + 1)) M = cmL (L.take k) M ++ (if decide (L.getD k 0 ∈ M) then [L.getD k 0] else [])) := cmL_take M L k hkl
      have HLn : Hid ((cmL (L.take k) M).length ≤ 5000) := by have h1 := cmL_len (L.take k) M; have h2 := List.length_take_le k L; show _ ≤ _; omega
      generalize L.getD k 0 = y at ck HC
      have h123 := HS.out wr HB.out y
      generalize decide (y ∈ M) = bb at h123 HC
      generalize cmL (L.take k) M = Q at HU HC HLn
      clear ck0
      cases bb
      · have HC : Hid (cmL (L.take (k + 1)) M = Q) := by have := HC.out; show _ = _; rw [this]; simp
        go_wp2_with (go_at_call 123; refine h123.mono ?_; rintro e w1 ⟨⟨z, rfl⟩, q, rfl⟩)
        have U3 : Hid (Ri w.heap.size (wr.drewN q) u (cmL (L.take (k + 1)) M)) := by show Ri _ _ _ _; rw [HC.out]; exact HU.out.next (below_drewN (Below.refl _ _) q)
        have B3 : Hid (Below w.heap.size w (wr.drewN q)) := below_drewN HB.out q
        clear HU HB
        go_wp2
        go_roundw
        case rel => exact ⟨k + 1, _, by omega, by go_num, rfl, U3, B3⟩
        case measure => simp [intOf]; omega
      · have HC : Hid (cmL (L.take (k + 1)) M = Q ++ [y]) := by have := HC.out; show _ = _; rw [this]; simp
        go_wp2_with (first | (go_at_call 123; refine h123.mono ?_; rintro e w1 ⟨⟨z, rfl⟩, q, rfl⟩; (have HUq : Hid (Ri w.heap.size (wr.drewN q) u Q) := HU.out.next (below_drewN (Below.refl _ _) q))) | (at_builtin; refine wpList_append_own _ rfl _ _ 45 rfl w.heap.size 3 i3 (.int .i64 0) 1 8 Tryd.underlying45 hi3 hz30 hz31 hz32 rfl (by decide) _ _ _ rfl (HUq.out.alloc _).1 ⟨_, 0, none⟩ 1 1 [.int .i64 y] rfl rfl ?_ ?_ ?_ ?_ ?_ ?_))
        · exact one_new (w := wr.drewN q) y
        · intro u hu; simp at hu; subst hu; rfl
        · have := HLn.out; unfold maxLen; omega
        · have := HLn.out; omega
        · have := (HUq.out.alloc (.cells #[.int .i64 y] 3)).2; exact this
        intro v3 w3 hown hgrow _
        have B3 : Hid (Below w.heap.size w w3) := ((below_drewN HB.out q).alloc (below_drewN HB.out q).size _).grown hgrow (HUq.out.alloc (.cells #[.int .i64 y] 3)).2 (fun g hg => (HUq.out.lt g hg).1)
        have U3 : Hid (Ri w.heap.size w3 v3 (cmL (L.take (k + 1)) M)) := by
          show Ri _ _ _ _
          rw [HC.out]
          refine ⟨?_, B3.out.size⟩
          rw [List.length_append, il_app]
          exact hown
        clear hown hgrow HU HB HUq
        go_wp2
        go_roundw
        case rel => exact ⟨k + 1, _, by omega, by go_num, rfl, U3, B3⟩
        case measure => simp [intOf]; omega
    · obtain rfl : k = n := by omega
      have i1 : ¬ (k : Int) < (k : Int) := by omega
      have IE : Hid (IOwn w.heap.size wr u (cmL L M)) := by show IOwn _ _ _ _; rw [← HE.out]; exact HU.out.own
      clear HU
      go_wp2
      go_ret
      exact ⟨_, rfl, IE.out, HB.out⟩
set_option maxRecDepth 100000 in
theorem meet (u v : Value) (L M : List Int) (w : World) (hn : L.length ≤ 5000) (hm : M.length ≤ 5000) (hs : M.Pairwise (· < ·)) (hL : ARow w u L) (hM : ARow w v M) : Calls Tryd.prog 110 #[u, v] w fun e w' => e = .returned (.bool (mtB L M)) ∧ Below w.heap.size w w' := by
  have h119 := common u v L M w hn hm hs hL hM
  have HQ : Hid (decide (0 < (cmL L M).length) = mtB L M) := cmL_mt L M
  have hl : (cmL L M).length ≤ 5000 := by have := cmL_len L M; omega
  rw [← HQ.out]
  generalize cmL L M = Q at h119 hl
  clear HQ
  obtain ⟨n, hn2⟩ : ∃ n, Q.length = n := ⟨_, rfl⟩
  have HN : Hid (Q.length = n) := hn2
  rw [hn2] at hl ⊢
  clear hn2 hL hM hs
  by_cases h0 : 0 < n
  · have i0 : (0 : Int) < (n : Int) := by omega
    rw [decide_eq_true h0]
    go_enter Tryd.func110, Tryd.ntmps110
    go_wp2_with (go_at_call 119; refine h119.mono ?_; rintro e w1 ⟨z, rfl, I1, B1⟩; (obtain ⟨a1, c1, rfl⟩ := I1.row.is); (rw [HN.out]))
    go_ret
    exact ⟨rfl, B1⟩
  · have i0 : ¬ (0 : Int) < (n : Int) := by omega
    rw [decide_eq_false h0]
    go_enter Tryd.func110, Tryd.ntmps110
    go_wp2_with (go_at_call 119; refine h119.mono ?_; rintro e w1 ⟨z, rfl, I1, B1⟩; (obtain ⟨a1, c1, rfl⟩ := I1.row.is); (rw [HN.out]))
    go_ret
    exact ⟨rfl, B1⟩
set_option maxRecDepth 100000 in
theorem touches (o d a b c x : Int) (w : World) : Calls Tryd.prog 120 #[.agg #[.int .i64 o, .int .i64 d, .int .i64 a, .int .i64 b, .int .i64 c, .int .u32 x]] w fun e w' => e = .returned (.bool (mmI o)) ∧ Below w.heap.size w w' := by
  have BW : Below w.heap.size w (w.alloc (.cells #[.int .i64 o, .int .i64 d, .int .i64 a, .int .i64 b, .int .i64 c, .int .u32 x] 35)) := (Below.refl _ _).alloc (Nat.le_refl _) _
  unfold mmI
  cases b6 : (o == 6)
  all_goals
    cases b7 : (o == 7)
    all_goals
      go_enter Tryd.func120, Tryd.ntmps120
      go_wp2
      go_ret
      exact ⟨rfl, BW⟩
set_option maxRecDepth 100000 in
set_option maxHeartbeats 4000000 in
theorem meetbuf (o d a b c x o' d' a' b' c' x' : Int) (w : World) : Calls Tryd.prog 111 #[.agg #[.int .i64 o, .int .i64 d, .int .i64 a, .int .i64 b, .int .i64 c, .int .u32 x], .agg #[.int .i64 o', .int .i64 d', .int .i64 a', .int .i64 b', .int .i64 c', .int .u32 x']] w fun e w' => e = .returned (.bool (meI o x o' x')) ∧ Below w.heap.size w w' := by
  have HC := Hid.mk (ins_blk2 w o d a b c x o' d' a' b' c' x')
  have h5 := fun v => touches o d a b c x v
  have h6 := fun v => touches o' d' a' b' c' x' v
  unfold meI
  generalize mmI o = M1 at h5 ⊢
  generalize mmI o' = M2 at h6 ⊢
  cases M1
  · go_enter Tryd.func111, Tryd.ntmps111
    have bb : Below ((w.alloc (.cells #[.int .i64 o, .int .i64 d, .int .i64 a, .int .i64 b, .int .i64 c, .int .u32 x] 35)).alloc (.cells #[.int .i64 o', .int .i64 d', .int .i64 a', .int .i64 b', .int .i64 c', .int .u32 x'] 35)).heap.size ((w.alloc (.cells #[.int .i64 o, .int .i64 d, .int .i64 a, .int .i64 b, .int .i64 c, .int .u32 x] 35)).alloc (.cells #[.int .i64 o', .int .i64 d', .int .i64 a', .int .i64 b', .int .i64 c', .int .u32 x'] 35)) ((w.alloc (.cells #[.int .i64 o, .int .i64 d, .int .i64 a, .int .i64 b, .int .i64 c, .int .u32 x] 35)).alloc (.cells #[.int .i64 o', .int .i64 d', .int .i64 a', .int .i64 b', .int .i64 c', .int .u32 x'] 35)) := Below.refl _ _
    go_wp2_with (first | (go_at_call 120; (with_reducible show Calls _ 120 #[.agg #[.int .i64 o, .int .i64 d, .int .i64 a, .int .i64 b, .int .i64 c, .int .u32 x]] _ _); refine (h5 _).mono ?_; rintro e w1 ⟨rfl, b1⟩; (replace bb := bb.trans (b1.mono bb.size)); (obtain ⟨⟨⟨d0, d1, d2, d3, d4, d5⟩, ⟨f0, f1, f2, f3, f4, f5⟩⟩, BB⟩ := HC.out _ bb)) | (go_at_call 120; (with_reducible show Calls _ 120 #[.agg #[.int .i64 o', .int .i64 d', .int .i64 a', .int .i64 b', .int .i64 c', .int .u32 x']] _ _); refine (h6 _).mono ?_; rintro e w1 ⟨rfl, b1⟩; (replace bb := bb.trans (b1.mono bb.size)); (obtain ⟨⟨⟨d0, d1, d2, d3, d4, d5⟩, ⟨f0, f1, f2, f3, f4, f5⟩⟩, BB⟩ := HC.out _ bb)))
    go_ret
    exact ⟨by first | rfl | simp, BB⟩
  cases M2
  · go_enter Tryd.func111, Tryd.ntmps111
    have bb : Below ((w.alloc (.cells #[.int .i64 o, .int .i64 d, .int .i64 a, .int .i64 b, .int .i64 c, .int .u32 x] 35)).alloc (.cells #[.int .i64 o', .int .i64 d', .int .i64 a', .int .i64 b', .int .i64 c', .int .u32 x'] 35)).heap.size ((w.alloc (.cells #[.int .i64 o, .int .i64 d, .int .i64 a, .int .i64 b, .int .i64 c, .int .u32 x] 35)).alloc (.cells #[.int .i64 o', .int .i64 d', .int .i64 a', .int .i64 b', .int .i64 c', .int .u32 x'] 35)) ((w.alloc (.cells #[.int .i64 o, .int .i64 d, .int .i64 a, .int .i64 b, .int .i64 c, .int .u32 x] 35)).alloc (.cells #[.int .i64 o', .int .i64 d', .int .i64 a', .int .i64 b', .int .i64 c', .int .u32 x'] 35)) := Below.refl _ _
    go_wp2_with (first | (go_at_call 120; (with_reducible show Calls _ 120 #[.agg #[.int .i64 o, .int .i64 d, .int .i64 a, .int .i64 b, .int .i64 c, .int .u32 x]] _ _); refine (h5 _).mono ?_; rintro e w1 ⟨rfl, b1⟩; (replace bb := bb.trans (b1.mono bb.size)); (obtain ⟨⟨⟨d0, d1, d2, d3, d4, d5⟩, ⟨f0, f1, f2, f3, f4, f5⟩⟩, BB⟩ := HC.out _ bb)) | (go_at_call 120; (with_reducible show Calls _ 120 #[.agg #[.int .i64 o', .int .i64 d', .int .i64 a', .int .i64 b', .int .i64 c', .int .u32 x']] _ _); refine (h6 _).mono ?_; rintro e w1 ⟨rfl, b1⟩; (replace bb := bb.trans (b1.mono bb.size)); (obtain ⟨⟨⟨d0, d1, d2, d3, d4, d5⟩, ⟨f0, f1, f2, f3, f4, f5⟩⟩, BB⟩ := HC.out _ bb)))
    go_ret
    exact ⟨by first | rfl | simp, BB⟩
  cases hX : (x == x')
  · go_enter Tryd.func111, Tryd.ntmps111
    have bb : Below ((w.alloc (.cells #[.int .i64 o, .int .i64 d, .int .i64 a, .int .i64 b, .int .i64 c, .int .u32 x] 35)).alloc (.cells #[.int .i64 o', .int .i64 d', .int .i64 a', .int .i64 b', .int .i64 c', .int .u32 x'] 35)).heap.size ((w.alloc (.cells #[.int .i64 o, .int .i64 d, .int .i64 a, .int .i64 b, .int .i64 c, .int .u32 x] 35)).alloc (.cells #[.int .i64 o', .int .i64 d', .int .i64 a', .int .i64 b', .int .i64 c', .int .u32 x'] 35)) ((w.alloc (.cells #[.int .i64 o, .int .i64 d, .int .i64 a, .int .i64 b, .int .i64 c, .int .u32 x] 35)).alloc (.cells #[.int .i64 o', .int .i64 d', .int .i64 a', .int .i64 b', .int .i64 c', .int .u32 x'] 35)) := Below.refl _ _
    go_wp2_with (first | (go_at_call 120; (with_reducible show Calls _ 120 #[.agg #[.int .i64 o, .int .i64 d, .int .i64 a, .int .i64 b, .int .i64 c, .int .u32 x]] _ _); refine (h5 _).mono ?_; rintro e w1 ⟨rfl, b1⟩; (replace bb := bb.trans (b1.mono bb.size)); (obtain ⟨⟨⟨d0, d1, d2, d3, d4, d5⟩, ⟨f0, f1, f2, f3, f4, f5⟩⟩, BB⟩ := HC.out _ bb)) | (go_at_call 120; (with_reducible show Calls _ 120 #[.agg #[.int .i64 o', .int .i64 d', .int .i64 a', .int .i64 b', .int .i64 c', .int .u32 x']] _ _); refine (h6 _).mono ?_; rintro e w1 ⟨rfl, b1⟩; (replace bb := bb.trans (b1.mono bb.size)); (obtain ⟨⟨⟨d0, d1, d2, d3, d4, d5⟩, ⟨f0, f1, f2, f3, f4, f5⟩⟩, BB⟩ := HC.out _ bb)))
    go_ret
    exact ⟨by first | rfl | simp, BB⟩
  cases hS : (o == 7)
  · cases hS2 : (o' == 7)
    · go_enter Tryd.func111, Tryd.ntmps111
      have bb : Below ((w.alloc (.cells #[.int .i64 o, .int .i64 d, .int .i64 a, .int .i64 b, .int .i64 c, .int .u32 x] 35)).alloc (.cells #[.int .i64 o', .int .i64 d', .int .i64 a', .int .i64 b', .int .i64 c', .int .u32 x'] 35)).heap.size ((w.alloc (.cells #[.int .i64 o, .int .i64 d, .int .i64 a, .int .i64 b, .int .i64 c, .int .u32 x] 35)).alloc (.cells #[.int .i64 o', .int .i64 d', .int .i64 a', .int .i64 b', .int .i64 c', .int .u32 x'] 35)) ((w.alloc (.cells #[.int .i64 o, .int .i64 d, .int .i64 a, .int .i64 b, .int .i64 c, .int .u32 x] 35)).alloc (.cells #[.int .i64 o', .int .i64 d', .int .i64 a', .int .i64 b', .int .i64 c', .int .u32 x'] 35)) := Below.refl _ _
      go_wp2_with (first | (go_at_call 120; (with_reducible show Calls _ 120 #[.agg #[.int .i64 o, .int .i64 d, .int .i64 a, .int .i64 b, .int .i64 c, .int .u32 x]] _ _); refine (h5 _).mono ?_; rintro e w1 ⟨rfl, b1⟩; (replace bb := bb.trans (b1.mono bb.size)); (obtain ⟨⟨⟨d0, d1, d2, d3, d4, d5⟩, ⟨f0, f1, f2, f3, f4, f5⟩⟩, BB⟩ := HC.out _ bb)) | (go_at_call 120; (with_reducible show Calls _ 120 #[.agg #[.int .i64 o', .int .i64 d', .int .i64 a', .int .i64 b', .int .i64 c', .int .u32 x']] _ _); refine (h6 _).mono ?_; rintro e w1 ⟨rfl, b1⟩; (replace bb := bb.trans (b1.mono bb.size)); (obtain ⟨⟨⟨d0, d1, d2, d3, d4, d5⟩, ⟨f0, f1, f2, f3, f4, f5⟩⟩, BB⟩ := HC.out _ bb)))
      go_ret
      exact ⟨by first | rfl | simp, BB⟩
    · go_enter Tryd.func111, Tryd.ntmps111
      have bb : Below ((w.alloc (.cells #[.int .i64 o, .int .i64 d, .int .i64 a, .int .i64 b, .int .i64 c, .int .u32 x] 35)).alloc (.cells #[.int .i64 o', .int .i64 d', .int .i64 a', .int .i64 b', .int .i64 c', .int .u32 x'] 35)).heap.size ((w.alloc (.cells #[.int .i64 o, .int .i64 d, .int .i64 a, .int .i64 b, .int .i64 c, .int .u32 x] 35)).alloc (.cells #[.int .i64 o', .int .i64 d', .int .i64 a', .int .i64 b', .int .i64 c', .int .u32 x'] 35)) ((w.alloc (.cells #[.int .i64 o, .int .i64 d, .int .i64 a, .int .i64 b, .int .i64 c, .int .u32 x] 35)).alloc (.cells #[.int .i64 o', .int .i64 d', .int .i64 a', .int .i64 b', .int .i64 c', .int .u32 x'] 35)) := Below.refl _ _
      go_wp2_with (first | (go_at_call 120; (with_reducible show Calls _ 120 #[.agg #[.int .i64 o, .int .i64 d, .int .i64 a, .int .i64 b, .int .i64 c, .int .u32 x]] _ _); refine (h5 _).mono ?_; rintro e w1 ⟨rfl, b1⟩; (replace bb := bb.trans (b1.mono bb.size)); (obtain ⟨⟨⟨d0, d1, d2, d3, d4, d5⟩, ⟨f0, f1, f2, f3, f4, f5⟩⟩, BB⟩ := HC.out _ bb)) | (go_at_call 120; (with_reducible show Calls _ 120 #[.agg #[.int .i64 o', .int .i64 d', .int .i64 a', .int .i64 b', .int .i64 c', .int .u32 x']] _ _); refine (h6 _).mono ?_; rintro e w1 ⟨rfl, b1⟩; (replace bb := bb.trans (b1.mono bb.size)); (obtain ⟨⟨⟨d0, d1, d2, d3, d4, d5⟩, ⟨f0, f1, f2, f3, f4, f5⟩⟩, BB⟩ := HC.out _ bb)))
      go_ret
      exact ⟨by first | rfl | simp, BB⟩
  · go_enter Tryd.func111, Tryd.ntmps111
    have bb : Below ((w.alloc (.cells #[.int .i64 o, .int .i64 d, .int .i64 a, .int .i64 b, .int .i64 c, .int .u32 x] 35)).alloc (.cells #[.int .i64 o', .int .i64 d', .int .i64 a', .int .i64 b', .int .i64 c', .int .u32 x'] 35)).heap.size ((w.alloc (.cells #[.int .i64 o, .int .i64 d, .int .i64 a, .int .i64 b, .int .i64 c, .int .u32 x] 35)).alloc (.cells #[.int .i64 o', .int .i64 d', .int .i64 a', .int .i64 b', .int .i64 c', .int .u32 x'] 35)) ((w.alloc (.cells #[.int .i64 o, .int .i64 d, .int .i64 a, .int .i64 b, .int .i64 c, .int .u32 x] 35)).alloc (.cells #[.int .i64 o', .int .i64 d', .int .i64 a', .int .i64 b', .int .i64 c', .int .u32 x'] 35)) := Below.refl _ _
    go_wp2_with (first | (go_at_call 120; (with_reducible show Calls _ 120 #[.agg #[.int .i64 o, .int .i64 d, .int .i64 a, .int .i64 b, .int .i64 c, .int .u32 x]] _ _); refine (h5 _).mono ?_; rintro e w1 ⟨rfl, b1⟩; (replace bb := bb.trans (b1.mono bb.size)); (obtain ⟨⟨⟨d0, d1, d2, d3, d4, d5⟩, ⟨f0, f1, f2, f3, f4, f5⟩⟩, BB⟩ := HC.out _ bb)) | (go_at_call 120; (with_reducible show Calls _ 120 #[.agg #[.int .i64 o', .int .i64 d', .int .i64 a', .int .i64 b', .int .i64 c', .int .u32 x']] _ _); refine (h6 _).mono ?_; rintro e w1 ⟨rfl, b1⟩; (replace bb := bb.trans (b1.mono bb.size)); (obtain ⟨⟨⟨d0, d1, d2, d3, d4, d5⟩, ⟨f0, f1, f2, f3, f4, f5⟩⟩, BB⟩ := HC.out _ bb)))
    go_ret
    exact ⟨by first | rfl | simp, BB⟩
set_option maxRecDepth 100000 in
theorem pends (o : Int) (w : World) : Calls Tryd.prog 90 #[.int .i64 o] w fun e w' => e = .returned (.bool (!freeB o)) ∧ w' = w := by
  have key : (freeB o = false ∧ (o = 8 ∨ o = 9 ∨ o = 11 ∨ o = 10)) ∨ (freeB o = true ∧ o ≠ 8 ∧ o ≠ 9 ∧ o ≠ 11 ∧ o ≠ 10) := by
    unfold freeB
    by_cases e8 : o = 8
    · subst e8; exact Or.inl ⟨rfl, Or.inl rfl⟩
    by_cases e9 : o = 9
    · subst e9; exact Or.inl ⟨rfl, Or.inr (Or.inl rfl)⟩
    by_cases e11 : o = 11
    · subst e11; exact Or.inl ⟨rfl, Or.inr (Or.inr (Or.inl rfl))⟩
    by_cases e10 : o = 10
    · subst e10; exact Or.inl ⟨rfl, Or.inr (Or.inr (Or.inr rfl))⟩
    · exact Or.inr ⟨by simp [e8, e9, e10, e11], e8, e9, e11, e10⟩
  rcases key with ⟨hcu, hoo⟩ | ⟨hcu, e8, e9, e11, e10⟩
  · rw [hcu]
    clear hcu
    rcases hoo with rfl | rfl | rfl | rfl
    all_goals
      go_enter Tryd.func90, Tryd.ntmps90
      go_wp2
      go_ret
      exact ⟨rfl, rfl⟩
  · rw [hcu]
    have f8 : (o == 8) = false := by simp [e8]
    have f9 : (o == 9) = false := by simp [e9]
    have f11 : (o == 11) = false := by simp [e11]
    have f10 : (o == 10) = false := by simp [e10]
    clear hcu e8 e9 e10 e11
    go_enter Tryd.func90, Tryd.ntmps90
    go_wp2
    go_ret
    exact ⟨rfl, rfl⟩
set_option maxRecDepth 100000 in
set_option maxHeartbeats 2000000 in
theorem outside (o d a b c x : Int) (w : World) (G : Forms w) (x0 : 0 ≤ x) (x1 : x < 4294967296) : Calls Tryd.prog 81 #[.agg #[.int .i64 o, .int .i64 d, .int .i64 a, .int .i64 b, .int .i64 c, .int .u32 x]] w fun e w' => e = .returned (.bool (!(goodI o d a b c x 600 && freeB o))) ∧ Below w.heap.size w w' := by
  have BW : Below w.heap.size w (w.alloc (.cells #[.int .i64 o, .int .i64 d, .int .i64 a, .int .i64 b, .int .i64 c, .int .u32 x] 35)) := (Below.refl _ _).alloc (Nat.le_refl _) _
  have HC := Hid.mk (ins_blk w o d a b c x)
  have h40 := good33 o d a b c x 600 (w.alloc (.cells #[.int .i64 o, .int .i64 d, .int .i64 a, .int .i64 b, .int .i64 c, .int .u32 x] 35)) (G.below BW) x0 x1 (by decide) (by decide)
  have h90 := fun v => pends o v
  generalize freeB o = ff at h90 ⊢
  generalize goodI o d a b c x 600 = gg at h40 ⊢
  cases ff
  · simp only [Bool.and_false, Bool.not_false]
    go_enter Tryd.func81, Tryd.ntmps81
    go_wp2_with (go_at_call 90; refine (h90 _).mono ?_; rintro e w1 ⟨rfl, hw⟩; subst w1)
    go_ret
    exact ⟨rfl, BW⟩
  · simp only [Bool.and_true]
    go_enter Tryd.func81, Tryd.ntmps81
    go_wp2_with (first | (go_at_call 90; refine (h90 _).mono ?_; rintro e w1 ⟨rfl, hw⟩; subst w1) | (go_at_call 40; refine h40.mono ?_; rintro e w2 ⟨rfl, b2⟩; (obtain ⟨⟨d0, d1, d2, d3, d4, d5⟩, B2⟩ := HC.out _ b2)))
    go_ret
    exact ⟨rfl, B2⟩
set_option maxRecDepth 100000 in
set_option maxHeartbeats 4000000 in
theorem idxout (b off cap : Nat) (c : Rc) (w : World) (G : Forms w) (R : Ir w b off c) (hX : c.wd) (hn : c.n ≤ 64) : Calls Tryd.prog 108 #[.slice (some ⟨b, off, none⟩) c.n cap, .func (.func 81) #[] #[]] w fun e w' => (∃ z : Int, e = .returned (.int .i64 z) ∧ Hid (decide (0 ≤ z) = !allB c.gi c.n)) ∧ Below w.heap.size w w' := by
  have HR := Hid.mk R
  have HX := Hid.mk hX
  have HF : Hid (∀ v, Below w.heap.size w v → Forms v) := fun v k => G.below k
  obtain ⟨n, hn2⟩ : ∃ n, c.n = n := ⟨_, rfl⟩
  have HN : Hid (c.n = n) := hn2
  rw [hn2] at hn ⊢
  clear hn2 R hX G
  go_enter Tryd.func108, Tryd.ntmps108
  go_wp2
  go_loopw [8] (fun i wr => ∃ k : Nat, k ≤ n ∧ i = .int .i64 k ∧ Hid (∀ j, j < k → c.gi j = true) ∧ Hid (Below w.heap.size w wr)) (fun i _ => n - (intOf i).toNat)
  case atStart => exact ⟨0, Nat.zero_le _, rfl, fun j hj => by omega, Below.refl _ _⟩
  case round =>
    obtain ⟨k, hk, rfl, HK, HB⟩ := hrel
    by_cases hkn : k < n
    · have j1 : (k : Int) < (n : Int) := by omega
      have j0 : (0 : Int) ≤ (k : Int) := by omega
      have RW := HR.out.next HB.out
      have hkc : k < c.n := by rw [HN.out]; exact hkn
      have e0 := RW.c0 k hkc
      have e1 := RW.c1 k hkc
      have e2 := RW.c2 k hkc
      have e3 := RW.c3 k hkc
      have e4 := RW.c4 k hkc
      have e5 := RW.c5 k hkc
      have h81 : Calls Tryd.prog 81 #[.agg #[.int .i64 (c.O k), .int .i64 (c.D k), .int .i64 (c.A k), .int .i64 (c.B k), .int .i64 (c.C k), .int .u32 (c.X k)]] wr fun e w' => e = .returned (.bool (!c.gi k)) ∧ Below wr.heap.size wr w' := outside (c.O k) (c.D k) (c.A k) (c.B k) (c.C k) (c.X k) wr (HF.out wr HB.out) (HX.out k hkc).1 (HX.out k hkc).2
      generalize hg : c.gi k = gg at h81
      have HG : Hid (c.gi k = gg) := hg
      clear hg RW
      cases gg
      · have HA : Hid (allB c.gi n = false) := allB_stop c.gi k HG.out n hkn
        go_wp2_with (go_at_call 81; refine h81.mono ?_; rintro e w1 ⟨rfl, b1⟩)
        go_ret
        exact ⟨⟨_, rfl, by show decide (0 ≤ (k : Int)) = _; rw [HA.out, decide_eq_true j0]; rfl⟩, HB.out.trans (b1.mono HB.out.size)⟩
      · have HKN : Hid (∀ j, j < k + 1 → c.gi j = true) := fun j hj => by
          by_cases q : j = k
          · subst q; exact HG.out
          · exact HK.out j (by omega)
        clear HK
        go_wp2_with (go_at_call 81; refine h81.mono ?_; rintro e w1 ⟨rfl, b1⟩)
        have HB1 : Hid (Below w.heap.size w w1) := HB.out.trans (b1.mono HB.out.size)
        clear HB b1
        go_roundw
        case rel => exact ⟨k + 1, by omega, by go_num, HKN, HB1⟩
        case measure => simp [intOf]; omega
    · obtain rfl : n = k := by omega
      have j1 : ¬ (n : Int) < (n : Int) := by omega
      have HA : Hid (allB c.gi n = true) := allB_all c.gi n HK.out
      go_wp2
      go_ret
      exact ⟨⟨_, rfl, by show decide (0 ≤ (-1 : Int)) = _; rw [HA.out]; rfl⟩, HB.out⟩
set_option maxRecDepth 100000 in
theorem contout (b off cap : Nat) (c : Rc) (w : World) (G : Forms w) (R : Ir w b off c) (hX : c.wd) (hn : c.n ≤ 64) : Calls Tryd.prog 80 #[.slice (some ⟨b, off, none⟩) c.n cap, .func (.func 81) #[] #[]] w fun e w' => e = .returned (.bool (!allB c.gi c.n)) ∧ Below w.heap.size w w' := by
  have h := idxout b off cap c w G R hX hn
  generalize allB c.gi c.n = gg at h ⊢
  clear R hX hn G
  generalize c.n = n at h ⊢
  go_enter Tryd.func80, Tryd.ntmps80
  go_wp2_with (go_at_call 108; refine h.mono ?_; rintro e w1 ⟨⟨z, rfl, hz0⟩, B1⟩; (have hz : decide (0 ≤ z) = !gg := hz0))
  go_ret
  exact ⟨by first | (rw [← hz]; rfl) | (simp only [← hz]; rfl), B1⟩
theorem stp_blk2 (w : World) (o d a b c x t o' d' a' b' c' x' t' : Int) (r v r' v' : Value) (u : World) (k : Below ((w.alloc (.cells #[.int .i64 o, .int .i64 d, .int .i64 a, .int .i64 b, .int .i64 c, .int .u32 x, r, v, .int .i64 t] 101)).alloc (.cells #[.int .i64 o', .int .i64 d', .int .i64 a', .int .i64 b', .int .i64 c', .int .u32 x', r', v', .int .i64 t'] 101)).heap.size ((w.alloc (.cells #[.int .i64 o, .int .i64 d, .int .i64 a, .int .i64 b, .int .i64 c, .int .u32 x, r, v, .int .i64 t] 101)).alloc (.cells #[.int .i64 o', .int .i64 d', .int .i64 a', .int .i64 b', .int .i64 c', .int .u32 x', r', v', .int .i64 t'] 101)) u) : ((u.cell? ⟨w.heap.size, 0, none⟩ = some (.int .i64 o) ∧ u.cell? ⟨w.heap.size, 1, none⟩ = some (.int .i64 d) ∧ u.cell? ⟨w.heap.size, 2, none⟩ = some (.int .i64 a) ∧ u.cell? ⟨w.heap.size, 3, none⟩ = some (.int .i64 b) ∧ u.cell? ⟨w.heap.size, 4, none⟩ = some (.int .i64 c) ∧ u.cell? ⟨w.heap.size, 5, none⟩ = some (.int .u32 x) ∧ u.cell? ⟨w.heap.size, 6, none⟩ = some r ∧ u.cell? ⟨w.heap.size, 7, none⟩ = some v ∧ u.cell? ⟨w.heap.size, 8, none⟩ = some (.int .i64 t)) ∧ (u.cell? ⟨w.heap.size + 1, 0, none⟩ = some (.int .i64 o') ∧ u.cell? ⟨w.heap.size + 1, 1, none⟩ = some (.int .i64 d') ∧ u.cell? ⟨w.heap.size + 1, 2, none⟩ = some (.int .i64 a') ∧ u.cell? ⟨w.heap.size + 1, 3, none⟩ = some (.int .i64 b') ∧ u.cell? ⟨w.heap.size + 1, 4, none⟩ = some (.int .i64 c') ∧ u.cell? ⟨w.heap.size + 1, 5, none⟩ = some (.int .u32 x') ∧ u.cell? ⟨w.heap.size + 1, 6, none⟩ = some r' ∧ u.cell? ⟨w.heap.size + 1, 7, none⟩ = some v' ∧ u.cell? ⟨w.heap.size + 1, 8, none⟩ = some (.int .i64 t'))) ∧ Below w.heap.size w u := by
  have q1 : w.heap.size < ((w.alloc (.cells #[.int .i64 o, .int .i64 d, .int .i64 a, .int .i64 b, .int .i64 c, .int .u32 x, r, v, .int .i64 t] 101)).alloc (.cells #[.int .i64 o', .int .i64 d', .int .i64 a', .int .i64 b', .int .i64 c', .int .u32 x', r', v', .int .i64 t'] 101)).heap.size := by simp; omega
  have q2 : w.heap.size + 1 < ((w.alloc (.cells #[.int .i64 o, .int .i64 d, .int .i64 a, .int .i64 b, .int .i64 c, .int .u32 x, r, v, .int .i64 t] 101)).alloc (.cells #[.int .i64 o', .int .i64 d', .int .i64 a', .int .i64 b', .int .i64 c', .int .u32 x', r', v', .int .i64 t'] 101)).heap.size := by simp
  have BW : Below w.heap.size w ((w.alloc (.cells #[.int .i64 o, .int .i64 d, .int .i64 a, .int .i64 b, .int .i64 c, .int .u32 x, r, v, .int .i64 t] 101)).alloc (.cells #[.int .i64 o', .int .i64 d', .int .i64 a', .int .i64 b', .int .i64 c', .int .u32 x', r', v', .int .i64 t'] 101)) := ((Below.refl _ _).alloc (Nat.le_refl _) _).alloc (by simp) _
  refine ⟨⟨⟨?_, ?_, ?_, ?_, ?_, ?_, ?_, ?_, ?_⟩, ⟨?_, ?_, ?_, ?_, ?_, ?_, ?_, ?_, ?_⟩⟩, BW.trans (k.mono BW.size)⟩
  all_goals
    first
    | (rw [k.cell (p := ⟨w.heap.size, _, none⟩) q1]; simp; done)
    | (rw [k.cell (p := ⟨w.heap.size + 1, _, none⟩) q2]; simp; done)
/-- What a step writes. -/
def wrL (o d : Int) : List Int := if nmd o 0 then [d] else []
theorem wrL_len (o d : Int) : (wrL o d).length ≤ 1 := by unfold wrL; split <;> simp
theorem wrL_asc (o d : Int) : (wrL o d).Pairwise (· < ·) := by unfold wrL; split <;> simp
theorem mt_flow (o d o' a' b' c' x' : Int) : mtB (srt (opsL o' a' b' c' x')) (wrL o d) = flI o d o' a' b' c' x' := by
  rw [Bool.eq_iff_iff]
  unfold mtB flI wrL
  rw [List.any_eq_true, Bool.and_eq_true]
  constructor
  · rintro ⟨y, h1, h2⟩
    rw [decide_eq_true_eq] at h2
    rw [srt_mem] at h1
    cases hn : nmd o 0
    · rw [hn] at h2; simp at h2
    · rw [hn] at h2
      have : y = d := by simpa using h2
      subst this
      exact ⟨rfl, decide_eq_true h1⟩
  · rintro ⟨h1, h2⟩
    rw [decide_eq_true_eq] at h2
    exact ⟨d, (srt_mem _ _).2 h2, by rw [h1]; simp⟩
theorem mt_anti (o d o' a' b' c' x' : Int) : mtB (wrL o d) (srt (opsL o' a' b' c' x')) = flI o d o' a' b' c' x' := by
  rw [Bool.eq_iff_iff]
  unfold mtB flI wrL
  rw [List.any_eq_true, Bool.and_eq_true]
  constructor
  · rintro ⟨y, h1, h2⟩
    rw [decide_eq_true_eq, srt_mem] at h2
    cases hn : nmd o 0
    · rw [hn] at h1; simp at h1
    · rw [hn] at h1
      have : y = d := by simpa using h1
      subst this
      exact ⟨rfl, decide_eq_true h2⟩
  · rintro ⟨h1, h2⟩
    rw [decide_eq_true_eq] at h2
    exact ⟨d, by rw [h1]; simp, decide_eq_true ((srt_mem _ _).2 h2)⟩
theorem mt_same (o d o' d' : Int) : mtB (wrL o' d') (wrL o d) = (nmd o' 0 && (nmd o 0 && d == d')) := by
  rw [Bool.eq_iff_iff]
  unfold mtB wrL
  cases nmd o' 0 <;> cases nmd o 0 <;> simp
  constructor <;> intro h <;> exact h.symm
/-- How many cycles behind i the step j waits; nought where it does not need it. -/
def wzI (o d a b c x o' d' a' b' c' x' : Int) : Int := if flI o d o' a' b' c' x' then latV o x else if ndI o d a b c x o' d' a' b' c' x' then 1 else 0
set_option maxRecDepth 100000 in
set_option maxHeartbeats 8000000 in
theorem waitfor (o d a b c x o' d' a' b' c' x' t' : Int) (r v r' v' : Value) (w : World) (hr : ARow w r (srt (opsL o a b c x))) (hv : ARow w v (wrL o d)) (hr' : ARow w r' (srt (opsL o' a' b' c' x'))) (hv' : ARow w v' (wrL o' d')) : Calls Tryd.prog 83 #[.agg #[.int .i64 o', .int .i64 d', .int .i64 a', .int .i64 b', .int .i64 c', .int .u32 x', r', v', .int .i64 t'], .agg #[.int .i64 o, .int .i64 d, .int .i64 a, .int .i64 b, .int .i64 c, .int .u32 x, r, v, .int .i64 (latV o x)]] w fun e w' => e = .returned (.int .i64 (wzI o d a b c x o' d' a' b' c' x')) ∧ Below w.heap.size w w' := by
  have l1 := opsL_len o a b c x
  have l2 := opsL_len o' a' b' c' x'
  have l3 := srt_len (opsL o a b c x)
  have l4 := srt_len (opsL o' a' b' c' x')
  have l5 := wrL_len o d
  have l6 := wrL_len o' d'
  have h1 : ∀ u, Below w.heap.size w u → Calls Tryd.prog 110 #[r', v] u fun e w' => e = .returned (.bool (flI o d o' a' b' c' x')) ∧ Below u.heap.size u w' := fun u k => by rw [← mt_flow]; exact meet r' v _ _ u (by omega) (by omega) (wrL_asc o d) (hr'.next k) (hv.next k)
  have h2 : ∀ u, Below w.heap.size w u → Calls Tryd.prog 110 #[v', r] u fun e w' => e = .returned (.bool (flI o' d' o a b c x)) ∧ Below u.heap.size u w' := fun u k => by rw [← mt_anti]; exact meet v' r _ _ u (by omega) (by omega) (srt_asc _) (hv'.next k) (hr.next k)
  have h3 : ∀ u, Below w.heap.size w u → Calls Tryd.prog 110 #[v', v] u fun e w' => e = .returned (.bool (nmd o' 0 && (nmd o 0 && d == d'))) ∧ Below u.heap.size u w' := fun u k => by rw [← mt_same]; exact meet v' v _ _ u (by omega) (by omega) (wrL_asc o d) (hv'.next k) (hv.next k)
  have h4 : ∀ u, Below w.heap.size w u → Calls Tryd.prog 111 #[.agg #[.int .i64 o', .int .i64 d', .int .i64 a', .int .i64 b', .int .i64 c', .int .u32 x'], .agg #[.int .i64 o, .int .i64 d, .int .i64 a, .int .i64 b, .int .i64 c, .int .u32 x]] u fun e w' => e = .returned (.bool (meI o' x' o x)) ∧ Below u.heap.size u w' := fun u _ => meetbuf o' d' a' b' c' x' o d a b c x u
  have HC := Hid.mk (stp_blk2 w o' d' a' b' c' x' t' o d a b c x (latV o x) r' v' r v)
  have HW : Hid (wzI o d a b c x o' d' a' b' c' x' = if flI o d o' a' b' c' x' then latV o x else if (flI o' d' o a b c x || ((nmd o' 0 && (nmd o 0 && d == d')) || meI o' x' o x)) then 1 else 0) := by
    show _ = _
    have e1 : (x == x') = (x' == x) := by rw [Bool.eq_iff_iff]; simp; constructor <;> intro h <;> exact h.symm
    have e2 : meI o x o' x' = meI o' x' o x := by
      unfold meI
      rw [e1]
      cases mmI o <;> cases mmI o' <;> cases (x' == x) <;> cases (o == 7) <;> cases (o' == 7) <;> rfl
    have e3 : ndI o d a b c x o' d' a' b' c' x' = (flI o d o' a' b' c' x' || (flI o' d' o a b c x || ((nmd o' 0 && (nmd o 0 && d == d')) || meI o' x' o x))) := by
      unfold ndI
      rw [e2]
      unfold flI
      cases nmd o' 0 <;> cases nmd o 0 <;> cases decide (d' ∈ opsL o a b c x) <;> cases decide (d ∈ opsL o' a' b' c' x') <;> cases (d == d') <;> cases meI o' x' o x <;> rfl
    unfold wzI
    rw [e3]
    cases flI o d o' a' b' c' x'
    · rfl
    · rfl
  rw [HW.out]
  obtain ⟨ra, rc, rfl, _⟩ := hr
  obtain ⟨va, vc, rfl, _⟩ := hv
  obtain ⟨ra', rc', rfl, _⟩ := hr'
  obtain ⟨va', vc', rfl, _⟩ := hv'
  generalize (srt (opsL o a b c x)).length = rl at *
  generalize (srt (opsL o' a' b' c' x')).length = rl' at *
  generalize (wrL o d).length = vl at *
  generalize (wrL o' d').length = vl' at *
  generalize latV o x = la at *
  generalize flI o d o' a' b' c' x' = q1 at h1 ⊢
  generalize flI o' d' o a b c x = q2 at h2 ⊢
  generalize (nmd o' 0 && (nmd o 0 && d == d')) = q3 at h3 ⊢
  generalize meI o' x' o x = q4 at h4 ⊢
  clear HW
  cases q1
  · simp only [Bool.false_eq_true, if_false]
    cases q2
    · simp only [Bool.false_or]
      cases q3
      · simp only [Bool.false_or]
        cases q4
        · simp only [Bool.false_eq_true, if_false]
          go_enter Tryd.func83, Tryd.ntmps83
          have bb : Below ((w.alloc (.cells #[.int .i64 o', .int .i64 d', .int .i64 a', .int .i64 b', .int .i64 c', .int .u32 x', .slice ra' rl' rc', .slice va' vl' vc', .int .i64 t'] 101)).alloc (.cells #[.int .i64 o, .int .i64 d, .int .i64 a, .int .i64 b, .int .i64 c, .int .u32 x, .slice ra rl rc, .slice va vl vc, .int .i64 la] 101)).heap.size ((w.alloc (.cells #[.int .i64 o', .int .i64 d', .int .i64 a', .int .i64 b', .int .i64 c', .int .u32 x', .slice ra' rl' rc', .slice va' vl' vc', .int .i64 t'] 101)).alloc (.cells #[.int .i64 o, .int .i64 d, .int .i64 a, .int .i64 b, .int .i64 c, .int .u32 x, .slice ra rl rc, .slice va vl vc, .int .i64 la] 101)) ((w.alloc (.cells #[.int .i64 o', .int .i64 d', .int .i64 a', .int .i64 b', .int .i64 c', .int .u32 x', .slice ra' rl' rc', .slice va' vl' vc', .int .i64 t'] 101)).alloc (.cells #[.int .i64 o, .int .i64 d, .int .i64 a, .int .i64 b, .int .i64 c, .int .u32 x, .slice ra rl rc, .slice va vl vc, .int .i64 la] 101)) := Below.refl _ _
          obtain ⟨⟨⟨d0, d1, d2, d3, d4, d5, d6, d7, d8⟩, ⟨f0, f1, f2, f3, f4, f5, f6, f7, f8⟩⟩, BB⟩ := HC.out _ bb
          clear d0 d1 d2 d3 d4 d5 d6 d7 d8 f0 f1 f2 f3 f4 f5 f6 f7 f8
          go_wp2_with (first | (go_at_call 110; (with_reducible show Calls _ 110 #[ .slice ra' rl' rc', .slice va vl vc] _ _); refine (h1 _ BB).mono ?_; rintro e w1 ⟨rfl, b1⟩; (replace bb := bb.trans (b1.mono bb.size)); (obtain ⟨⟨⟨d0, d1, d2, d3, d4, d5, d6, d7, d8⟩, ⟨f0, f1, f2, f3, f4, f5, f6, f7, f8⟩⟩, BB⟩ := HC.out _ bb)) | (go_at_call 110; (with_reducible show Calls _ 110 #[.slice va' vl' vc', .slice ra rl rc] _ _); refine (h2 _ BB).mono ?_; rintro e w1 ⟨rfl, b1⟩; (replace bb := bb.trans (b1.mono bb.size)); (obtain ⟨⟨⟨d0, d1, d2, d3, d4, d5, d6, d7, d8⟩, ⟨f0, f1, f2, f3, f4, f5, f6, f7, f8⟩⟩, BB⟩ := HC.out _ bb)) | (go_at_call 110; (with_reducible show Calls _ 110 #[.slice va' vl' vc', .slice va vl vc] _ _); refine (h3 _ BB).mono ?_; rintro e w1 ⟨rfl, b1⟩; (replace bb := bb.trans (b1.mono bb.size)); (obtain ⟨⟨⟨d0, d1, d2, d3, d4, d5, d6, d7, d8⟩, ⟨f0, f1, f2, f3, f4, f5, f6, f7, f8⟩⟩, BB⟩ := HC.out _ bb)) | (go_at_call 111; (with_reducible show Calls _ 111 _ _ _); refine (h4 _ BB).mono ?_; rintro e w1 ⟨rfl, b1⟩; (replace bb := bb.trans (b1.mono bb.size)); (obtain ⟨⟨⟨d0, d1, d2, d3, d4, d5, d6, d7, d8⟩, ⟨f0, f1, f2, f3, f4, f5, f6, f7, f8⟩⟩, BB⟩ := HC.out _ bb)))
          go_ret
          exact ⟨rfl, BB⟩
        · simp only [if_true]
          go_enter Tryd.func83, Tryd.ntmps83
          have bb : Below ((w.alloc (.cells #[.int .i64 o', .int .i64 d', .int .i64 a', .int .i64 b', .int .i64 c', .int .u32 x', .slice ra' rl' rc', .slice va' vl' vc', .int .i64 t'] 101)).alloc (.cells #[.int .i64 o, .int .i64 d, .int .i64 a, .int .i64 b, .int .i64 c, .int .u32 x, .slice ra rl rc, .slice va vl vc, .int .i64 la] 101)).heap.size ((w.alloc (.cells #[.int .i64 o', .int .i64 d', .int .i64 a', .int .i64 b', .int .i64 c', .int .u32 x', .slice ra' rl' rc', .slice va' vl' vc', .int .i64 t'] 101)).alloc (.cells #[.int .i64 o, .int .i64 d, .int .i64 a, .int .i64 b, .int .i64 c, .int .u32 x, .slice ra rl rc, .slice va vl vc, .int .i64 la] 101)) ((w.alloc (.cells #[.int .i64 o', .int .i64 d', .int .i64 a', .int .i64 b', .int .i64 c', .int .u32 x', .slice ra' rl' rc', .slice va' vl' vc', .int .i64 t'] 101)).alloc (.cells #[.int .i64 o, .int .i64 d, .int .i64 a, .int .i64 b, .int .i64 c, .int .u32 x, .slice ra rl rc, .slice va vl vc, .int .i64 la] 101)) := Below.refl _ _
          obtain ⟨⟨⟨d0, d1, d2, d3, d4, d5, d6, d7, d8⟩, ⟨f0, f1, f2, f3, f4, f5, f6, f7, f8⟩⟩, BB⟩ := HC.out _ bb
          clear d0 d1 d2 d3 d4 d5 d6 d7 d8 f0 f1 f2 f3 f4 f5 f6 f7 f8
          go_wp2_with (first | (go_at_call 110; (with_reducible show Calls _ 110 #[ .slice ra' rl' rc', .slice va vl vc] _ _); refine (h1 _ BB).mono ?_; rintro e w1 ⟨rfl, b1⟩; (replace bb := bb.trans (b1.mono bb.size)); (obtain ⟨⟨⟨d0, d1, d2, d3, d4, d5, d6, d7, d8⟩, ⟨f0, f1, f2, f3, f4, f5, f6, f7, f8⟩⟩, BB⟩ := HC.out _ bb)) | (go_at_call 110; (with_reducible show Calls _ 110 #[.slice va' vl' vc', .slice ra rl rc] _ _); refine (h2 _ BB).mono ?_; rintro e w1 ⟨rfl, b1⟩; (replace bb := bb.trans (b1.mono bb.size)); (obtain ⟨⟨⟨d0, d1, d2, d3, d4, d5, d6, d7, d8⟩, ⟨f0, f1, f2, f3, f4, f5, f6, f7, f8⟩⟩, BB⟩ := HC.out _ bb)) | (go_at_call 110; (with_reducible show Calls _ 110 #[.slice va' vl' vc', .slice va vl vc] _ _); refine (h3 _ BB).mono ?_; rintro e w1 ⟨rfl, b1⟩; (replace bb := bb.trans (b1.mono bb.size)); (obtain ⟨⟨⟨d0, d1, d2, d3, d4, d5, d6, d7, d8⟩, ⟨f0, f1, f2, f3, f4, f5, f6, f7, f8⟩⟩, BB⟩ := HC.out _ bb)) | (go_at_call 111; (with_reducible show Calls _ 111 _ _ _); refine (h4 _ BB).mono ?_; rintro e w1 ⟨rfl, b1⟩; (replace bb := bb.trans (b1.mono bb.size)); (obtain ⟨⟨⟨d0, d1, d2, d3, d4, d5, d6, d7, d8⟩, ⟨f0, f1, f2, f3, f4, f5, f6, f7, f8⟩⟩, BB⟩ := HC.out _ bb)))
          go_ret
          exact ⟨rfl, BB⟩
      · simp only [Bool.true_or, if_true]
        go_enter Tryd.func83, Tryd.ntmps83
        have bb : Below ((w.alloc (.cells #[.int .i64 o', .int .i64 d', .int .i64 a', .int .i64 b', .int .i64 c', .int .u32 x', .slice ra' rl' rc', .slice va' vl' vc', .int .i64 t'] 101)).alloc (.cells #[.int .i64 o, .int .i64 d, .int .i64 a, .int .i64 b, .int .i64 c, .int .u32 x, .slice ra rl rc, .slice va vl vc, .int .i64 la] 101)).heap.size ((w.alloc (.cells #[.int .i64 o', .int .i64 d', .int .i64 a', .int .i64 b', .int .i64 c', .int .u32 x', .slice ra' rl' rc', .slice va' vl' vc', .int .i64 t'] 101)).alloc (.cells #[.int .i64 o, .int .i64 d, .int .i64 a, .int .i64 b, .int .i64 c, .int .u32 x, .slice ra rl rc, .slice va vl vc, .int .i64 la] 101)) ((w.alloc (.cells #[.int .i64 o', .int .i64 d', .int .i64 a', .int .i64 b', .int .i64 c', .int .u32 x', .slice ra' rl' rc', .slice va' vl' vc', .int .i64 t'] 101)).alloc (.cells #[.int .i64 o, .int .i64 d, .int .i64 a, .int .i64 b, .int .i64 c, .int .u32 x, .slice ra rl rc, .slice va vl vc, .int .i64 la] 101)) := Below.refl _ _
        obtain ⟨⟨⟨d0, d1, d2, d3, d4, d5, d6, d7, d8⟩, ⟨f0, f1, f2, f3, f4, f5, f6, f7, f8⟩⟩, BB⟩ := HC.out _ bb
        clear d0 d1 d2 d3 d4 d5 d6 d7 d8 f0 f1 f2 f3 f4 f5 f6 f7 f8
        go_wp2_with (first | (go_at_call 110; (with_reducible show Calls _ 110 #[ .slice ra' rl' rc', .slice va vl vc] _ _); refine (h1 _ BB).mono ?_; rintro e w1 ⟨rfl, b1⟩; (replace bb := bb.trans (b1.mono bb.size)); (obtain ⟨⟨⟨d0, d1, d2, d3, d4, d5, d6, d7, d8⟩, ⟨f0, f1, f2, f3, f4, f5, f6, f7, f8⟩⟩, BB⟩ := HC.out _ bb)) | (go_at_call 110; (with_reducible show Calls _ 110 #[.slice va' vl' vc', .slice ra rl rc] _ _); refine (h2 _ BB).mono ?_; rintro e w1 ⟨rfl, b1⟩; (replace bb := bb.trans (b1.mono bb.size)); (obtain ⟨⟨⟨d0, d1, d2, d3, d4, d5, d6, d7, d8⟩, ⟨f0, f1, f2, f3, f4, f5, f6, f7, f8⟩⟩, BB⟩ := HC.out _ bb)) | (go_at_call 110; (with_reducible show Calls _ 110 #[.slice va' vl' vc', .slice va vl vc] _ _); refine (h3 _ BB).mono ?_; rintro e w1 ⟨rfl, b1⟩; (replace bb := bb.trans (b1.mono bb.size)); (obtain ⟨⟨⟨d0, d1, d2, d3, d4, d5, d6, d7, d8⟩, ⟨f0, f1, f2, f3, f4, f5, f6, f7, f8⟩⟩, BB⟩ := HC.out _ bb)) | (go_at_call 111; (with_reducible show Calls _ 111 _ _ _); refine (h4 _ BB).mono ?_; rintro e w1 ⟨rfl, b1⟩; (replace bb := bb.trans (b1.mono bb.size)); (obtain ⟨⟨⟨d0, d1, d2, d3, d4, d5, d6, d7, d8⟩, ⟨f0, f1, f2, f3, f4, f5, f6, f7, f8⟩⟩, BB⟩ := HC.out _ bb)))
        go_ret
        exact ⟨rfl, BB⟩
    · simp only [Bool.true_or, if_true]
      go_enter Tryd.func83, Tryd.ntmps83
      have bb : Below ((w.alloc (.cells #[.int .i64 o', .int .i64 d', .int .i64 a', .int .i64 b', .int .i64 c', .int .u32 x', .slice ra' rl' rc', .slice va' vl' vc', .int .i64 t'] 101)).alloc (.cells #[.int .i64 o, .int .i64 d, .int .i64 a, .int .i64 b, .int .i64 c, .int .u32 x, .slice ra rl rc, .slice va vl vc, .int .i64 la] 101)).heap.size ((w.alloc (.cells #[.int .i64 o', .int .i64 d', .int .i64 a', .int .i64 b', .int .i64 c', .int .u32 x', .slice ra' rl' rc', .slice va' vl' vc', .int .i64 t'] 101)).alloc (.cells #[.int .i64 o, .int .i64 d, .int .i64 a, .int .i64 b, .int .i64 c, .int .u32 x, .slice ra rl rc, .slice va vl vc, .int .i64 la] 101)) ((w.alloc (.cells #[.int .i64 o', .int .i64 d', .int .i64 a', .int .i64 b', .int .i64 c', .int .u32 x', .slice ra' rl' rc', .slice va' vl' vc', .int .i64 t'] 101)).alloc (.cells #[.int .i64 o, .int .i64 d, .int .i64 a, .int .i64 b, .int .i64 c, .int .u32 x, .slice ra rl rc, .slice va vl vc, .int .i64 la] 101)) := Below.refl _ _
      obtain ⟨⟨⟨d0, d1, d2, d3, d4, d5, d6, d7, d8⟩, ⟨f0, f1, f2, f3, f4, f5, f6, f7, f8⟩⟩, BB⟩ := HC.out _ bb
      clear d0 d1 d2 d3 d4 d5 d6 d7 d8 f0 f1 f2 f3 f4 f5 f6 f7 f8
      go_wp2_with (first | (go_at_call 110; (with_reducible show Calls _ 110 #[ .slice ra' rl' rc', .slice va vl vc] _ _); refine (h1 _ BB).mono ?_; rintro e w1 ⟨rfl, b1⟩; (replace bb := bb.trans (b1.mono bb.size)); (obtain ⟨⟨⟨d0, d1, d2, d3, d4, d5, d6, d7, d8⟩, ⟨f0, f1, f2, f3, f4, f5, f6, f7, f8⟩⟩, BB⟩ := HC.out _ bb)) | (go_at_call 110; (with_reducible show Calls _ 110 #[.slice va' vl' vc', .slice ra rl rc] _ _); refine (h2 _ BB).mono ?_; rintro e w1 ⟨rfl, b1⟩; (replace bb := bb.trans (b1.mono bb.size)); (obtain ⟨⟨⟨d0, d1, d2, d3, d4, d5, d6, d7, d8⟩, ⟨f0, f1, f2, f3, f4, f5, f6, f7, f8⟩⟩, BB⟩ := HC.out _ bb)) | (go_at_call 110; (with_reducible show Calls _ 110 #[.slice va' vl' vc', .slice va vl vc] _ _); refine (h3 _ BB).mono ?_; rintro e w1 ⟨rfl, b1⟩; (replace bb := bb.trans (b1.mono bb.size)); (obtain ⟨⟨⟨d0, d1, d2, d3, d4, d5, d6, d7, d8⟩, ⟨f0, f1, f2, f3, f4, f5, f6, f7, f8⟩⟩, BB⟩ := HC.out _ bb)) | (go_at_call 111; (with_reducible show Calls _ 111 _ _ _); refine (h4 _ BB).mono ?_; rintro e w1 ⟨rfl, b1⟩; (replace bb := bb.trans (b1.mono bb.size)); (obtain ⟨⟨⟨d0, d1, d2, d3, d4, d5, d6, d7, d8⟩, ⟨f0, f1, f2, f3, f4, f5, f6, f7, f8⟩⟩, BB⟩ := HC.out _ bb)))
      go_ret
      exact ⟨rfl, BB⟩
  · simp only [if_true]
    go_enter Tryd.func83, Tryd.ntmps83
    have bb : Below ((w.alloc (.cells #[.int .i64 o', .int .i64 d', .int .i64 a', .int .i64 b', .int .i64 c', .int .u32 x', .slice ra' rl' rc', .slice va' vl' vc', .int .i64 t'] 101)).alloc (.cells #[.int .i64 o, .int .i64 d, .int .i64 a, .int .i64 b, .int .i64 c, .int .u32 x, .slice ra rl rc, .slice va vl vc, .int .i64 la] 101)).heap.size ((w.alloc (.cells #[.int .i64 o', .int .i64 d', .int .i64 a', .int .i64 b', .int .i64 c', .int .u32 x', .slice ra' rl' rc', .slice va' vl' vc', .int .i64 t'] 101)).alloc (.cells #[.int .i64 o, .int .i64 d, .int .i64 a, .int .i64 b, .int .i64 c, .int .u32 x, .slice ra rl rc, .slice va vl vc, .int .i64 la] 101)) ((w.alloc (.cells #[.int .i64 o', .int .i64 d', .int .i64 a', .int .i64 b', .int .i64 c', .int .u32 x', .slice ra' rl' rc', .slice va' vl' vc', .int .i64 t'] 101)).alloc (.cells #[.int .i64 o, .int .i64 d, .int .i64 a, .int .i64 b, .int .i64 c, .int .u32 x, .slice ra rl rc, .slice va vl vc, .int .i64 la] 101)) := Below.refl _ _
    obtain ⟨⟨⟨d0, d1, d2, d3, d4, d5, d6, d7, d8⟩, ⟨f0, f1, f2, f3, f4, f5, f6, f7, f8⟩⟩, BB⟩ := HC.out _ bb
    clear d0 d1 d2 d3 d4 d5 d6 d7 d8 f0 f1 f2 f3 f4 f5 f6 f7 f8
    go_wp2_with (first | (go_at_call 110; (with_reducible show Calls _ 110 #[.slice ra' rl' rc', .slice va vl vc] _ _); refine (h1 _ BB).mono ?_; rintro e w1 ⟨rfl, b1⟩; (replace bb := bb.trans (b1.mono bb.size)); (obtain ⟨⟨⟨d0, d1, d2, d3, d4, d5, d6, d7, d8⟩, ⟨f0, f1, f2, f3, f4, f5, f6, f7, f8⟩⟩, BB⟩ := HC.out _ bb)) | (go_at_call 110; (with_reducible show Calls _ 110 #[.slice va' vl' vc', .slice ra rl rc] _ _); refine (h2 _ BB).mono ?_; rintro e w1 ⟨rfl, b1⟩; (replace bb := bb.trans (b1.mono bb.size)); (obtain ⟨⟨⟨d0, d1, d2, d3, d4, d5, d6, d7, d8⟩, ⟨f0, f1, f2, f3, f4, f5, f6, f7, f8⟩⟩, BB⟩ := HC.out _ bb)) | (go_at_call 110; (with_reducible show Calls _ 110 #[.slice va' vl' vc', .slice va vl vc] _ _); refine (h3 _ BB).mono ?_; rintro e w1 ⟨rfl, b1⟩; (replace bb := bb.trans (b1.mono bb.size)); (obtain ⟨⟨⟨d0, d1, d2, d3, d4, d5, d6, d7, d8⟩, ⟨f0, f1, f2, f3, f4, f5, f6, f7, f8⟩⟩, BB⟩ := HC.out _ bb)) | (go_at_call 111; (with_reducible show Calls _ 111 _ _ _); refine (h4 _ BB).mono ?_; rintro e w1 ⟨rfl, b1⟩; (replace bb := bb.trans (b1.mono bb.size)); (obtain ⟨⟨⟨d0, d1, d2, d3, d4, d5, d6, d7, d8⟩, ⟨f0, f1, f2, f3, f4, f5, f6, f7, f8⟩⟩, BB⟩ := HC.out _ bb)))
    go_ret
    exact ⟨rfl, BB⟩

end Go.Proofs.YtcgapochcahknaaDoor
