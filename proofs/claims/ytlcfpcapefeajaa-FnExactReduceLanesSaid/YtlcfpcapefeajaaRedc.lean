/- Contracts of ReduceLanes, of the program and of its model; conditions: the words stand in memory. -/
import Derived.Test.YtlcfpcapefeajaaEq48
namespace Go.Proofs.Ytlcfpcapefeajaa
open Go.ChangeShapes Go.WideShapes Go.ChangeAt Go.RowKit
/-- What comes of the first k + 1 numbers. -/
def rd (l : List Int) (op : Int) : Nat → Int
  | 0 => l.getD 0 0
  | k + 1 => red op (rd l op k) (l.getD (k + 1) 0)
theorem pk_getD (d : Nat → Int) (m : Int) (hd : ∀ i, inW (d i)) (n i : Nat) : inW ((pk d m n).getD i 0) := by
  by_cases h : i < (pk d m n).length
  · have e : (pk d m n).getD i 0 = (pk d m n)[i] := by simp [List.getD, h]
    rw [e]; exact pk_in d m hd n _ (List.getElem_mem h)
  · have e : (pk d m n).getD i 0 = 0 := by simp [List.getD, List.getElem?_eq_none (Nat.le_of_not_lt h)]
    rw [e]; exact ⟨by decide, by decide⟩
theorem shape2 {w : World} {b : Nat} {v : Value} {xs : List Int} (h : w.ownsRow b 39 1 v xs.length (xs.map (Value.int .u32))) (hx : xs ≠ []) :
    (∃ g s0, v = .slice (some ⟨g, 0, none⟩) 1 1 ∧ Hid (xs.length = 1) ∧ Hid (xs.getD 0 0 = s0) ∧ w.cell? ⟨g, 0, none⟩ = some (.int .u32 s0)) ∨
    ∃ N g cap s0, v = .slice (some ⟨g, 0, none⟩) (N + 1) cap ∧ N + 1 ≤ cap ∧ ¬ cap = 1 ∧ Hid (xs.length = N + 1) ∧ Hid (xs.getD 0 0 = s0) ∧ w.cell? ⟨g, 0, none⟩ = some (.int .u32 s0) ∧ Hid (∀ i, i < N + 1 → w.cell? ⟨g, i, none⟩ = some (.int .u32 (xs.getD i 0))) := by
  obtain ⟨N, hN⟩ : ∃ N, xs.length = N + 1 := ⟨xs.length - 1, by have := List.length_pos_iff.2 hx; omega⟩
  have h' := h
  obtain ⟨_, ⟨h1, h2⟩ | ⟨g, cap, cur, rfl, hg, r1, r2, r⟩⟩ := h
  · omega
  · have O := own_owned h' (fun i => .int .u32 (xs.getD i 0)) (fun i hi => by simp [List.getD, hi])
    rw [hN] at O
    by_cases hc : cap = 1
    · have hN0 : N = 0 := by omega
      subst hc
      subst hN0
      exact Or.inl ⟨g, _, by rw [hN], hN, rfl, O.cell 0 (by omega)⟩
    · exact Or.inr ⟨N, g, cap, _, by rw [hN], by omega, hc, hN, rfl, O.cell 0 (by omega), O.cell⟩

set_option maxRecDepth 100000 in
set_option maxHeartbeats 4000000 in
theorem red28_1 (n a ca : Nat) (d : Nat → Int) (m : Int) (w : World) (hn : n ≤ 16) (hg : goodM n m = true) (hm : m ≠ 0) (hd : ∀ i, inW (d i)) (la : a < w.heap.size) (hc : ∀ i, i < n → w.cell? ⟨a, i, none⟩ = some (.int .u32 (d i))) :
    Calls Try.prog 28 #[.slice (some ⟨a, 0, none⟩) n ca, .int .i64 m, .int .i64 1] w fun r w' => r = .returned (.tuple #[.int .u32 (rd (pk d m n) 1 ((pk d m n).length - 1)), .bool true]) ∧ Below w.heap.size w w' := by
  have HC : Hid (∀ i, i < n → w.cell? ⟨a, i, none⟩ = some (.int .u32 (d i))) := hc
  clear hc
  have pl := pk_le d m n
  have HPS : Hid (pk d m n ≠ []) := pk_some d hg hm
  have pi : ∀ i, inW ((pk d m n).getD i 0) := pk_getD d m hd n
  have HPI : Hid (∀ i, inW ((pk d m n).getD i 0)) := pi
  clear pi
  go_enter Try.func28, Try.ntmps28
  go_wp2_with (first | (go_at_call 9; refine (gm9 _ _ _).mono ?_; rintro e w1 ⟨rfl, hw1⟩; subst w1; rw [hg]) | (go_at_call 32; refine (pick32 n a ca d m w hn la HC.out).mono ?_; rintro e w2 ⟨v, rfl, OW, B2⟩; rcases shape2 OW HPS.out with ⟨g, s0, rfl, HN, HS0, c0⟩ | ⟨N, g, cap, s0, rfl, hcap, hc1, HN, HS0, c0, O2⟩))
  · refine wp_loop_rounds 1 ?_
    rw [rounds_succ]
    go_wp2
    go_ret2
    exact ⟨by rw [HN.out]; show _ = Ending.returned (.tuple #[.int .u32 ((pk d m n).getD 0 0), _]); rw [HS0.out]; rfl, B2⟩
  obtain ⟨l, hl⟩ : ∃ l, pk d m n = l := ⟨_, rfl⟩
  rw [hl] at HPI HN O2 HS0 pl
  have hN16 : N < 16 := by have := HN.out; omega
  have hN16' : (N : Int) < 16 := by omega
  have HP : Hid (pk d m n = l) := hl
  have PI : Hid (∀ i, inW (l.getD i 0)) := HPI
  have HO2 : Hid (∀ i, i < l.length → w2.cell? ⟨g, i, none⟩ = some (.int .u32 (l.getD i 0))) := fun i hi => O2.out i (by rw [HN.out] at hi; exact hi)
  clear hl HPI O2 OW HPS

  · skip
    go_loopw [9, 38] (fun s i wr => ∃ k : Nat, k ≤ N ∧ i = .int .i64 k ∧ s = .int .u32 (rd l 1 k) ∧ ((1 : Int) ≤ 2 → inW (rd l 1 k)) ∧ wr = w2) (fun _ i _ => N - (intOf i).toNat)
    case atStart => exact ⟨0, Nat.zero_le _, rfl, by show _ = Value.int _ (l.getD 0 0); rw [HS0.out], fun _ => PI.out 0, rfl⟩
    case round =>
      obtain ⟨k, hk, rfl, rfl, hs, hwr⟩ := hrel
      subst wr
      by_cases hkn : k < N
      · have i0 : (0 : Int) ≤ (k : Int) := by omega
        have i1 : (k : Int) < (N : Int) := by omega
        have cx := HO2.out (k + 1) (by have := HN.out; omega)
        have cx' : w2.cell? ⟨g, 1 + k, none⟩ = some (.int .u32 (l.getD (k + 1) 0)) := by rw [Nat.add_comm]; exact cx
        obtain ⟨x, hx⟩ : ∃ x, l.getD (k + 1) 0 = x := ⟨_, rfl⟩
        rw [hx] at cx cx'
        have HX : Hid (l.getD (k + 1) 0 = x) := hx
        clear hx
        obtain ⟨s, hss⟩ : ∃ s, rd l 1 k = s := ⟨_, rfl⟩
        rw [hss] at hs ⊢
        have HS : Hid (rd l 1 k = s) := hss
        clear hss
        have HI := PI.out (k + 1)
        by_cases hl : wrap32 x < wrap32 s
        · have e : red 1 s x = x := by unfold red; rw [if_pos rfl, if_pos hl]
          have HE : Hid (red 1 s x = x) := e
          clear e
          go_wp2
          go_roundw
          case rel => exact ⟨k + 1, by omega, by go_num, by show _ = Value.int _ (rd l 1 (k + 1)); rw [rd, HX.out, HS.out]; first | rfl | (rw [HE.out]), fun ho => by show inW (rd l 1 (k + 1)); rw [rd, HS.out]; exact red_in 1 _ _ (by omega) (hs ho) HI, by first | rfl | trivial⟩
          case measure => simp [intOf]; omega

        · have e : red 1 s x = s := by unfold red; rw [if_pos rfl, if_neg hl]
          have HE : Hid (red 1 s x = s) := e
          clear e
          go_wp2
          go_roundw
          case rel => exact ⟨k + 1, by omega, by go_num, by show _ = Value.int _ (rd l 1 (k + 1)); rw [rd, HX.out, HS.out]; first | rfl | (rw [HE.out]), fun ho => by show inW (rd l 1 (k + 1)); rw [rd, HS.out]; exact red_in 1 _ _ (by omega) (hs ho) HI, by first | rfl | trivial⟩
          case measure => simp [intOf]; omega

      · clear c0
        have hkk : k = N := by omega
        subst hkk
        go_wp2
        go_ret2
        exact ⟨by rw [HP.out, HN.out]; rfl, B2⟩

set_option maxRecDepth 100000 in
set_option maxHeartbeats 4000000 in
theorem red28_2 (n a ca : Nat) (d : Nat → Int) (m : Int) (w : World) (hn : n ≤ 16) (hg : goodM n m = true) (hm : m ≠ 0) (hd : ∀ i, inW (d i)) (la : a < w.heap.size) (hc : ∀ i, i < n → w.cell? ⟨a, i, none⟩ = some (.int .u32 (d i))) :
    Calls Try.prog 28 #[.slice (some ⟨a, 0, none⟩) n ca, .int .i64 m, .int .i64 2] w fun r w' => r = .returned (.tuple #[.int .u32 (rd (pk d m n) 2 ((pk d m n).length - 1)), .bool true]) ∧ Below w.heap.size w w' := by
  have HC : Hid (∀ i, i < n → w.cell? ⟨a, i, none⟩ = some (.int .u32 (d i))) := hc
  clear hc
  have pl := pk_le d m n
  have HPS : Hid (pk d m n ≠ []) := pk_some d hg hm
  have pi : ∀ i, inW ((pk d m n).getD i 0) := pk_getD d m hd n
  have HPI : Hid (∀ i, inW ((pk d m n).getD i 0)) := pi
  clear pi
  go_enter Try.func28, Try.ntmps28
  go_wp2_with (first | (go_at_call 9; refine (gm9 _ _ _).mono ?_; rintro e w1 ⟨rfl, hw1⟩; subst w1; rw [hg]) | (go_at_call 32; refine (pick32 n a ca d m w hn la HC.out).mono ?_; rintro e w2 ⟨v, rfl, OW, B2⟩; rcases shape2 OW HPS.out with ⟨g, s0, rfl, HN, HS0, c0⟩ | ⟨N, g, cap, s0, rfl, hcap, hc1, HN, HS0, c0, O2⟩))
  · refine wp_loop_rounds 1 ?_
    rw [rounds_succ]
    go_wp2
    go_ret2
    exact ⟨by rw [HN.out]; show _ = Ending.returned (.tuple #[.int .u32 ((pk d m n).getD 0 0), _]); rw [HS0.out]; rfl, B2⟩
  obtain ⟨l, hl⟩ : ∃ l, pk d m n = l := ⟨_, rfl⟩
  rw [hl] at HPI HN O2 HS0 pl
  have hN16 : N < 16 := by have := HN.out; omega
  have hN16' : (N : Int) < 16 := by omega
  have HP : Hid (pk d m n = l) := hl
  have PI : Hid (∀ i, inW (l.getD i 0)) := HPI
  have HO2 : Hid (∀ i, i < l.length → w2.cell? ⟨g, i, none⟩ = some (.int .u32 (l.getD i 0))) := fun i hi => O2.out i (by rw [HN.out] at hi; exact hi)
  clear hl HPI O2 OW HPS

  · skip
    go_loopw [9, 38] (fun s i wr => ∃ k : Nat, k ≤ N ∧ i = .int .i64 k ∧ s = .int .u32 (rd l 2 k) ∧ ((2 : Int) ≤ 2 → inW (rd l 2 k)) ∧ wr = w2) (fun _ i _ => N - (intOf i).toNat)
    case atStart => exact ⟨0, Nat.zero_le _, rfl, by show _ = Value.int _ (l.getD 0 0); rw [HS0.out], fun _ => PI.out 0, rfl⟩
    case round =>
      obtain ⟨k, hk, rfl, rfl, hs, hwr⟩ := hrel
      subst wr
      by_cases hkn : k < N
      · have i0 : (0 : Int) ≤ (k : Int) := by omega
        have i1 : (k : Int) < (N : Int) := by omega
        have cx := HO2.out (k + 1) (by have := HN.out; omega)
        have cx' : w2.cell? ⟨g, 1 + k, none⟩ = some (.int .u32 (l.getD (k + 1) 0)) := by rw [Nat.add_comm]; exact cx
        obtain ⟨x, hx⟩ : ∃ x, l.getD (k + 1) 0 = x := ⟨_, rfl⟩
        rw [hx] at cx cx'
        have HX : Hid (l.getD (k + 1) 0 = x) := hx
        clear hx
        obtain ⟨s, hss⟩ : ∃ s, rd l 2 k = s := ⟨_, rfl⟩
        rw [hss] at hs ⊢
        have HS : Hid (rd l 2 k = s) := hss
        clear hss
        have HI := PI.out (k + 1)
        by_cases hl : wrap32 s < wrap32 x
        · have e : red 2 s x = x := by unfold red; rw [if_neg (by decide), if_pos rfl, if_pos hl]
          have HE : Hid (red 2 s x = x) := e
          clear e
          go_wp2
          go_roundw
          case rel => exact ⟨k + 1, by omega, by go_num, by show _ = Value.int _ (rd l 2 (k + 1)); rw [rd, HX.out, HS.out]; first | rfl | (rw [HE.out]), fun ho => by show inW (rd l 2 (k + 1)); rw [rd, HS.out]; exact red_in 2 _ _ (by omega) (hs ho) HI, by first | rfl | trivial⟩
          case measure => simp [intOf]; omega

        · have e : red 2 s x = s := by unfold red; rw [if_neg (by decide), if_pos rfl, if_neg hl]
          have HE : Hid (red 2 s x = s) := e
          clear e
          go_wp2
          go_roundw
          case rel => exact ⟨k + 1, by omega, by go_num, by show _ = Value.int _ (rd l 2 (k + 1)); rw [rd, HX.out, HS.out]; first | rfl | (rw [HE.out]), fun ho => by show inW (rd l 2 (k + 1)); rw [rd, HS.out]; exact red_in 2 _ _ (by omega) (hs ho) HI, by first | rfl | trivial⟩
          case measure => simp [intOf]; omega

      · clear c0
        have hkk : k = N := by omega
        subst hkk
        go_wp2
        go_ret2
        exact ⟨by rw [HP.out, HN.out]; rfl, B2⟩

set_option maxRecDepth 100000 in
set_option maxHeartbeats 4000000 in
theorem red28_3 (n a ca : Nat) (d : Nat → Int) (m : Int) (w : World) (hn : n ≤ 16) (hg : goodM n m = true) (hm : m ≠ 0) (hd : ∀ i, inW (d i)) (la : a < w.heap.size) (hc : ∀ i, i < n → w.cell? ⟨a, i, none⟩ = some (.int .u32 (d i))) :
    Calls Try.prog 28 #[.slice (some ⟨a, 0, none⟩) n ca, .int .i64 m, .int .i64 3] w fun r w' => r = .returned (.tuple #[.int .u32 (rd (pk d m n) 3 ((pk d m n).length - 1)), .bool true]) ∧ Below w.heap.size w w' := by
  have HC : Hid (∀ i, i < n → w.cell? ⟨a, i, none⟩ = some (.int .u32 (d i))) := hc
  clear hc
  have pl := pk_le d m n
  have HPS : Hid (pk d m n ≠ []) := pk_some d hg hm
  have pi : ∀ i, inW ((pk d m n).getD i 0) := pk_getD d m hd n
  have HPI : Hid (∀ i, inW ((pk d m n).getD i 0)) := pi
  clear pi
  go_enter Try.func28, Try.ntmps28
  go_wp2_with (first | (go_at_call 9; refine (gm9 _ _ _).mono ?_; rintro e w1 ⟨rfl, hw1⟩; subst w1; rw [hg]) | (go_at_call 32; refine (pick32 n a ca d m w hn la HC.out).mono ?_; rintro e w2 ⟨v, rfl, OW, B2⟩; rcases shape2 OW HPS.out with ⟨g, s0, rfl, HN, HS0, c0⟩ | ⟨N, g, cap, s0, rfl, hcap, hc1, HN, HS0, c0, O2⟩))
  · refine wp_loop_rounds 1 ?_
    rw [rounds_succ]
    go_wp2
    go_ret2
    exact ⟨by rw [HN.out]; show _ = Ending.returned (.tuple #[.int .u32 ((pk d m n).getD 0 0), _]); rw [HS0.out]; rfl, B2⟩
  obtain ⟨l, hl⟩ : ∃ l, pk d m n = l := ⟨_, rfl⟩
  rw [hl] at HPI HN O2 HS0 pl
  have hN16 : N < 16 := by have := HN.out; omega
  have hN16' : (N : Int) < 16 := by omega
  have HP : Hid (pk d m n = l) := hl
  have PI : Hid (∀ i, inW (l.getD i 0)) := HPI
  have HO2 : Hid (∀ i, i < l.length → w2.cell? ⟨g, i, none⟩ = some (.int .u32 (l.getD i 0))) := fun i hi => O2.out i (by rw [HN.out] at hi; exact hi)
  clear hl HPI O2 OW HPS

  · skip
    go_loopw [9, 38] (fun s i wr => ∃ k : Nat, k ≤ N ∧ i = .int .i64 k ∧ s = .int .u32 (rd l 3 k) ∧ ((3 : Int) ≤ 2 → inW (rd l 3 k)) ∧ wr = w2) (fun _ i _ => N - (intOf i).toNat)
    case atStart => exact ⟨0, Nat.zero_le _, rfl, by show _ = Value.int _ (l.getD 0 0); rw [HS0.out], fun _ => PI.out 0, rfl⟩
    case round =>
      obtain ⟨k, hk, rfl, rfl, hs, hwr⟩ := hrel
      subst wr
      by_cases hkn : k < N
      · have i0 : (0 : Int) ≤ (k : Int) := by omega
        have i1 : (k : Int) < (N : Int) := by omega
        have cx := HO2.out (k + 1) (by have := HN.out; omega)
        have cx' : w2.cell? ⟨g, 1 + k, none⟩ = some (.int .u32 (l.getD (k + 1) 0)) := by rw [Nat.add_comm]; exact cx
        obtain ⟨x, hx⟩ : ∃ x, l.getD (k + 1) 0 = x := ⟨_, rfl⟩
        rw [hx] at cx cx'
        have HX : Hid (l.getD (k + 1) 0 = x) := hx
        clear hx
        obtain ⟨s, hss⟩ : ∃ s, rd l 3 k = s := ⟨_, rfl⟩
        rw [hss] at hs ⊢
        have HS : Hid (rd l 3 k = s) := hss
        clear hss
        · have HI := PI.out (k + 1)
          go_wp2
          go_roundw
          case rel => exact ⟨k + 1, by omega, by go_num, by show _ = Value.int _ (rd l 3 (k + 1)); rw [rd, HX.out, HS.out]; first | rfl | (rw [HX.out]), fun ho => by show inW (rd l 3 (k + 1)); rw [rd, HS.out]; exact red_in 3 _ _ (by omega) (hs ho) HI, by first | rfl | trivial⟩
          case measure => simp [intOf]; omega

      · clear c0
        have hkk : k = N := by omega
        subst hkk
        go_wp2
        go_ret2
        exact ⟨by rw [HP.out, HN.out]; rfl, B2⟩

set_option maxRecDepth 100000 in
set_option maxHeartbeats 4000000 in
theorem red28_4 (n a ca : Nat) (d : Nat → Int) (m : Int) (w : World) (hn : n ≤ 16) (hg : goodM n m = true) (hm : m ≠ 0) (hd : ∀ i, inW (d i)) (la : a < w.heap.size) (hc : ∀ i, i < n → w.cell? ⟨a, i, none⟩ = some (.int .u32 (d i))) :
    Calls Try.prog 28 #[.slice (some ⟨a, 0, none⟩) n ca, .int .i64 m, .int .i64 4] w fun r w' => r = .returned (.tuple #[.int .u32 (rd (pk d m n) 4 ((pk d m n).length - 1)), .bool true]) ∧ Below w.heap.size w w' := by
  have HC : Hid (∀ i, i < n → w.cell? ⟨a, i, none⟩ = some (.int .u32 (d i))) := hc
  clear hc
  have pl := pk_le d m n
  have HPS : Hid (pk d m n ≠ []) := pk_some d hg hm
  have pi : ∀ i, inW ((pk d m n).getD i 0) := pk_getD d m hd n
  have HPI : Hid (∀ i, inW ((pk d m n).getD i 0)) := pi
  clear pi
  go_enter Try.func28, Try.ntmps28
  go_wp2_with (first | (go_at_call 9; refine (gm9 _ _ _).mono ?_; rintro e w1 ⟨rfl, hw1⟩; subst w1; rw [hg]) | (go_at_call 32; refine (pick32 n a ca d m w hn la HC.out).mono ?_; rintro e w2 ⟨v, rfl, OW, B2⟩; rcases shape2 OW HPS.out with ⟨g, s0, rfl, HN, HS0, c0⟩ | ⟨N, g, cap, s0, rfl, hcap, hc1, HN, HS0, c0, O2⟩))
  · refine wp_loop_rounds 1 ?_
    rw [rounds_succ]
    go_wp2
    go_ret2
    exact ⟨by rw [HN.out]; show _ = Ending.returned (.tuple #[.int .u32 ((pk d m n).getD 0 0), _]); rw [HS0.out]; rfl, B2⟩
  obtain ⟨l, hl⟩ : ∃ l, pk d m n = l := ⟨_, rfl⟩
  rw [hl] at HPI HN O2 HS0 pl
  have hN16 : N < 16 := by have := HN.out; omega
  have hN16' : (N : Int) < 16 := by omega
  have HP : Hid (pk d m n = l) := hl
  have PI : Hid (∀ i, inW (l.getD i 0)) := HPI
  have HO2 : Hid (∀ i, i < l.length → w2.cell? ⟨g, i, none⟩ = some (.int .u32 (l.getD i 0))) := fun i hi => O2.out i (by rw [HN.out] at hi; exact hi)
  clear hl HPI O2 OW HPS

  · skip
    go_loopw [9, 38] (fun s i wr => ∃ k : Nat, k ≤ N ∧ i = .int .i64 k ∧ s = .int .u32 (rd l 4 k) ∧ ((4 : Int) ≤ 2 → inW (rd l 4 k)) ∧ wr = w2) (fun _ i _ => N - (intOf i).toNat)
    case atStart => exact ⟨0, Nat.zero_le _, rfl, by show _ = Value.int _ (l.getD 0 0); rw [HS0.out], fun _ => PI.out 0, rfl⟩
    case round =>
      obtain ⟨k, hk, rfl, rfl, hs, hwr⟩ := hrel
      subst wr
      by_cases hkn : k < N
      · have i0 : (0 : Int) ≤ (k : Int) := by omega
        have i1 : (k : Int) < (N : Int) := by omega
        have cx := HO2.out (k + 1) (by have := HN.out; omega)
        have cx' : w2.cell? ⟨g, 1 + k, none⟩ = some (.int .u32 (l.getD (k + 1) 0)) := by rw [Nat.add_comm]; exact cx
        obtain ⟨x, hx⟩ : ∃ x, l.getD (k + 1) 0 = x := ⟨_, rfl⟩
        rw [hx] at cx cx'
        have HX : Hid (l.getD (k + 1) 0 = x) := hx
        clear hx
        obtain ⟨s, hss⟩ : ∃ s, rd l 4 k = s := ⟨_, rfl⟩
        rw [hss] at hs ⊢
        have HS : Hid (rd l 4 k = s) := hss
        clear hss
        · have HI := PI.out (k + 1)
          go_wp2
          go_roundw
          case rel => exact ⟨k + 1, by omega, by go_num, by show _ = Value.int _ (rd l 4 (k + 1)); rw [rd, HX.out, HS.out]; first | rfl | (rw [HX.out]), fun ho => by show inW (rd l 4 (k + 1)); rw [rd, HS.out]; exact red_in 4 _ _ (by omega) (hs ho) HI, by first | rfl | trivial⟩
          case measure => simp [intOf]; omega

      · clear c0
        have hkk : k = N := by omega
        subst hkk
        go_wp2
        go_ret2
        exact ⟨by rw [HP.out, HN.out]; rfl, B2⟩

set_option maxRecDepth 100000 in
set_option maxHeartbeats 4000000 in
theorem red28_5 (n a ca : Nat) (d : Nat → Int) (m : Int) (w : World) (hn : n ≤ 16) (hg : goodM n m = true) (hm : m ≠ 0) (hd : ∀ i, inW (d i)) (la : a < w.heap.size) (hc : ∀ i, i < n → w.cell? ⟨a, i, none⟩ = some (.int .u32 (d i))) :
    Calls Try.prog 28 #[.slice (some ⟨a, 0, none⟩) n ca, .int .i64 m, .int .i64 5] w fun r w' => r = .returned (.tuple #[.int .u32 (rd (pk d m n) 5 ((pk d m n).length - 1)), .bool true]) ∧ Below w.heap.size w w' := by
  have HC : Hid (∀ i, i < n → w.cell? ⟨a, i, none⟩ = some (.int .u32 (d i))) := hc
  clear hc
  have pl := pk_le d m n
  have HPS : Hid (pk d m n ≠ []) := pk_some d hg hm
  have pi : ∀ i, inW ((pk d m n).getD i 0) := pk_getD d m hd n
  have HPI : Hid (∀ i, inW ((pk d m n).getD i 0)) := pi
  clear pi
  go_enter Try.func28, Try.ntmps28
  go_wp2_with (first | (go_at_call 9; refine (gm9 _ _ _).mono ?_; rintro e w1 ⟨rfl, hw1⟩; subst w1; rw [hg]) | (go_at_call 32; refine (pick32 n a ca d m w hn la HC.out).mono ?_; rintro e w2 ⟨v, rfl, OW, B2⟩; rcases shape2 OW HPS.out with ⟨g, s0, rfl, HN, HS0, c0⟩ | ⟨N, g, cap, s0, rfl, hcap, hc1, HN, HS0, c0, O2⟩))
  · refine wp_loop_rounds 1 ?_
    rw [rounds_succ]
    go_wp2
    go_ret2
    exact ⟨by rw [HN.out]; show _ = Ending.returned (.tuple #[.int .u32 ((pk d m n).getD 0 0), _]); rw [HS0.out]; rfl, B2⟩
  obtain ⟨l, hl⟩ : ∃ l, pk d m n = l := ⟨_, rfl⟩
  rw [hl] at HPI HN O2 HS0 pl
  have hN16 : N < 16 := by have := HN.out; omega
  have hN16' : (N : Int) < 16 := by omega
  have HP : Hid (pk d m n = l) := hl
  have PI : Hid (∀ i, inW (l.getD i 0)) := HPI
  have HO2 : Hid (∀ i, i < l.length → w2.cell? ⟨g, i, none⟩ = some (.int .u32 (l.getD i 0))) := fun i hi => O2.out i (by rw [HN.out] at hi; exact hi)
  clear hl HPI O2 OW HPS

  · skip
    go_loopw [9, 38] (fun s i wr => ∃ k : Nat, k ≤ N ∧ i = .int .i64 k ∧ s = .int .u32 (rd l 5 k) ∧ ((5 : Int) ≤ 2 → inW (rd l 5 k)) ∧ wr = w2) (fun _ i _ => N - (intOf i).toNat)
    case atStart => exact ⟨0, Nat.zero_le _, rfl, by show _ = Value.int _ (l.getD 0 0); rw [HS0.out], fun _ => PI.out 0, rfl⟩
    case round =>
      obtain ⟨k, hk, rfl, rfl, hs, hwr⟩ := hrel
      subst wr
      by_cases hkn : k < N
      · have i0 : (0 : Int) ≤ (k : Int) := by omega
        have i1 : (k : Int) < (N : Int) := by omega
        have cx := HO2.out (k + 1) (by have := HN.out; omega)
        have cx' : w2.cell? ⟨g, 1 + k, none⟩ = some (.int .u32 (l.getD (k + 1) 0)) := by rw [Nat.add_comm]; exact cx
        obtain ⟨x, hx⟩ : ∃ x, l.getD (k + 1) 0 = x := ⟨_, rfl⟩
        rw [hx] at cx cx'
        have HX : Hid (l.getD (k + 1) 0 = x) := hx
        clear hx
        obtain ⟨s, hss⟩ : ∃ s, rd l 5 k = s := ⟨_, rfl⟩
        rw [hss] at hs ⊢
        have HS : Hid (rd l 5 k = s) := hss
        clear hss
        · have HI := PI.out (k + 1)
          go_wp2
          go_roundw
          case rel => exact ⟨k + 1, by omega, by go_num, by show _ = Value.int _ (rd l 5 (k + 1)); rw [rd, HX.out, HS.out]; first | rfl | (rw [HX.out]), fun ho => by show inW (rd l 5 (k + 1)); rw [rd, HS.out]; exact red_in 5 _ _ (by omega) (hs ho) HI, by first | rfl | trivial⟩
          case measure => simp [intOf]; omega

      · clear c0
        have hkk : k = N := by omega
        subst hkk
        go_wp2
        go_ret2
        exact ⟨by rw [HP.out, HN.out]; rfl, B2⟩

set_option maxRecDepth 100000 in
set_option maxHeartbeats 4000000 in
theorem red29 (n a ca : Nat) (d : Nat → Int) (m : Int) (op : Int) (o1 : 1 ≤ op) (o5 : op ≤ 5) (w : World) (hn : n ≤ 16) (hg : goodM n m = true) (hm : m ≠ 0) (hd : ∀ i, inW (d i)) (la : a < w.heap.size) (hc : ∀ i, i < n → w.cell? ⟨a, i, none⟩ = some (.int .u32 (d i))) :
    Calls Try.prog 29 #[.slice (some ⟨a, 0, none⟩) n ca, .int .i64 m, .int .i64 op] w fun r w' => r = .returned (.tuple #[.int .u32 (rd (pk d m n) op ((pk d m n).length - 1)), .bool true]) ∧ Below w.heap.size w w' := by
  have HC : Hid (∀ i, i < n → w.cell? ⟨a, i, none⟩ = some (.int .u32 (d i))) := hc
  clear hc
  have pl := pk_le d m n
  have HPS : Hid (pk d m n ≠ []) := pk_some d hg hm
  have pi : ∀ i, inW ((pk d m n).getD i 0) := pk_getD d m hd n
  have HPI : Hid (∀ i, inW ((pk d m n).getD i 0)) := pi
  clear pi
  obtain ⟨m0, _, m1⟩ := good_parts hg
  have hEq : ∀ w : World, (Op.equalIn 10000 48 (.agg #[.bool (onM m 0), .bool (onM m 1), .bool (onM m 2), .bool (onM m 3), .bool (onM m 4), .bool (onM m 5), .bool (onM m 6), .bool (onM m 7), .bool (onM m 8), .bool (onM m 9), .bool (onM m 10), .bool (onM m 11), .bool (onM m 12), .bool (onM m 13), .bool (onM m 14), .bool (onM m 15)]) (.agg #[.bool false, .bool false, .bool false, .bool false, .bool false, .bool false, .bool false, .bool false, .bool false, .bool false, .bool false, .bool false, .bool false, .bool false, .bool false, .bool false])).run Try.prog w = .ok false w := fun w => by rw [eqLanes m m0 m1, decide_eq_false hm]
  clear m0 m1
  go_enter Try.func29, Try.ntmps29
  go_wp2_with (first | (go_at_call 10; refine (gm10 _ _ _).mono ?_; rintro e w1 ⟨rfl, hw1⟩; subst w1; rw [hg]) | (go_at_call 31; refine (lanes31 m w).mono ?_; rintro e w1 ⟨rfl, B1⟩; (have Bx : Below w.heap.size w (w1.alloc (.cells (lanesV m) 48)) := B1.trans (((Below.refl _ _).alloc (Nat.le_refl _) _).mono B1.size))) | (go_at_call 33; refine (pick33 n a ca d m (w1.alloc (.cells (lanesV m) 48)) hn (by have := B1.size; simp; omega) (fun i hi => (Bx.cell (p := ⟨a, i, none⟩) la).trans (HC.out i hi))).mono ?_; rintro e w2 ⟨v, rfl, OW, B2'⟩; have B2 := Bx.trans (B2'.mono Bx.size); rcases shape2 OW HPS.out with ⟨g, s0, rfl, HN, HS0, c0⟩ | ⟨N, g, cap, s0, rfl, hcap, hc1, HN, HS0, c0, O2⟩))
  · refine wp_loop_rounds 1 ?_
    rw [rounds_succ]
    go_wp2
    go_ret2
    exact ⟨by rw [HN.out]; show _ = Ending.returned (.tuple #[.int .u32 ((pk d m n).getD 0 0), _]); rw [HS0.out]; rfl, B2⟩
  obtain ⟨l, hl⟩ : ∃ l, pk d m n = l := ⟨_, rfl⟩
  rw [hl] at HPI HN O2 HS0 pl
  have hN16 : N < 16 := by have := HN.out; omega
  have hN16' : (N : Int) < 16 := by omega
  have HP : Hid (pk d m n = l) := hl
  have PI : Hid (∀ i, inW (l.getD i 0)) := HPI
  have HO2 : Hid (∀ i, i < l.length → w2.cell? ⟨g, i, none⟩ = some (.int .u32 (l.getD i 0))) := fun i hi => O2.out i (by rw [HN.out] at hi; exact hi)
  clear hl HPI O2 OW HPS

  · skip
    go_loopw [10, 40] (fun s i wr => ∃ k : Nat, k ≤ N ∧ i = .int .i64 k ∧ s = .int .u32 (rd l op k) ∧ ((op : Int) ≤ 2 → inW (rd l op k)) ∧ wr = w2) (fun _ i _ => N - (intOf i).toNat)
    case atStart => exact ⟨0, Nat.zero_le _, rfl, by show _ = Value.int _ (l.getD 0 0); rw [HS0.out], fun _ => PI.out 0, rfl⟩
    case round =>
      obtain ⟨k, hk, rfl, rfl, hs, hwr⟩ := hrel
      subst wr
      by_cases hkn : k < N
      · have i0 : (0 : Int) ≤ (k : Int) := by omega
        have i1 : (k : Int) < (N : Int) := by omega
        have cx := HO2.out (k + 1) (by have := HN.out; omega)
        have cx' : w2.cell? ⟨g, 1 + k, none⟩ = some (.int .u32 (l.getD (k + 1) 0)) := by rw [Nat.add_comm]; exact cx
        obtain ⟨x, hx⟩ : ∃ x, l.getD (k + 1) 0 = x := ⟨_, rfl⟩
        rw [hx] at cx cx'
        have HX : Hid (l.getD (k + 1) 0 = x) := hx
        clear hx
        obtain ⟨s, hss⟩ : ∃ s, rd l op k = s := ⟨_, rfl⟩
        rw [hss] at hs ⊢
        have HS : Hid (rd l op k = s) := hss
        clear hss
        have HI := PI.out (k + 1)
        go_wp2_with (go_at_call 34; refine (pair34 _ _ _ (by omega) (by omega) (fun ho => ⟨hs ho, by rw [← HX.out]; exact HI⟩) _).mono ?_; rintro e wz ⟨rfl, hw⟩; subst wz)
        go_roundw
        case rel => exact ⟨k + 1, by omega, by go_num, by show _ = Value.int _ (rd l op (k + 1)); rw [rd, HX.out, HS.out], fun ho => by show inW (rd l op (k + 1)); rw [rd, HS.out]; exact red_in op _ _ (by omega) (hs ho) HI, by first | rfl | trivial⟩
        case measure => simp [intOf]; omega
      · clear c0
        have hkk : k = N := by omega
        subst hkk
        go_wp2
        go_ret2
        exact ⟨by rw [HP.out, HN.out]; rfl, B2⟩

end Go.Proofs.Ytlcfpcapefeajaa
