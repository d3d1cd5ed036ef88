/- The model's sides of all levels: a row of rows of two numbers each. -/
import Derived.Test.YthkngcdfnemhaaaAg
import Derived.Laws.AppendOwn
namespace Go.Proofs.Ythkngcdfnemhaaa
open Go.ChangeShapes Go.WideShapes Go.ChangeAt Go.RowKit
set_option linter.unusedVariables false
theorem infoS : (Try.prog.info? 73).map (fun i => (i.zero, i.size, i.bytes)) = some (some (.slice none 0 0), 1, 24) := by kernel_rfl
def pS (p : Nat → Nat) (i : Nat) : Value := .slice (some ⟨p i, 0, none⟩) 2 2
def pL (p : Nat → Nat) (n : Nat) : List Value := (List.range n).map (pS p)
/-- Rows of sides in the making. -/
structure SdO (B : Nat) (w : World) (v : Value) (n : Nat) (X Y : Int) (p : Nat → Nat) : Prop where
  o : w.ownsRow B 73 1 v n (pL p n)
  b : ∀ i, i < n → B ≤ p i ∧ w.heap[p i]? = some (.cells #[.int .i64 (sdI X i), .int .i64 (sdI Y i)] 3 (0, 0))
/-- Rows of sides as they are read. -/
def SdR (w : World) (v : Value) (n : Nat) (X Y : Int) : Prop := ∃ (g c : Nat) (p : Nat → Nat), v = .slice (some ⟨g, 0, none⟩) n c ∧ ∀ i, i < n → w.cell? ⟨g, i, none⟩ = some (.slice (some ⟨p i, 0, none⟩) 2 2) ∧ w.cell? ⟨p i, 0, none⟩ = some (.int .i64 (sdI X i)) ∧ w.cell? ⟨p i, 1, none⟩ = some (.int .i64 (sdI Y i))
theorem SdR.next {w w' : World} {v : Value} {n : Nat} {X Y : Int} (h : SdR w v n X Y) (b : Below w.heap.size w w') : SdR w' v n X Y := by
  obtain ⟨g, c, p, rfl, h⟩ := h
  exact ⟨g, c, p, rfl, fun i hi => ⟨cell_nx (h i hi).1 b, cell_nx (h i hi).2.1 b, cell_nx (h i hi).2.2 b⟩⟩
theorem heap_lt {w : World} {k : Nat} {o : Obj} (h : w.heap[k]? = some o) : k < w.heap.size := by
  rcases Nat.lt_or_ge k w.heap.size with h1 | h1
  · exact h1
  · rw [Array.getElem?_eq_none h1] at h; cases h
theorem SdO.read {B : Nat} {w : World} {v : Value} {n : Nat} {X Y : Int} {p : Nat → Nat} (h : SdO B w v n X Y p) (hn : 0 < n) : SdR w v n X Y := by
  obtain ⟨g, c, hv⟩ : ∃ g c, v = .slice (some ⟨g, 0, none⟩) n c := by
    rcases h.o.2 with ⟨_, h0⟩ | ⟨g, c, _, hv, _⟩
    · omega
    · exact ⟨g, c, hv⟩
  subst hv
  refine ⟨g, c, p, rfl, fun i hi => ⟨?_, ?_, ?_⟩⟩
  · rw [h.o.cellAt i (by omega)]
    simp [hi, pL, pS]
  · have hb := (h.b i hi).2
    simp [World.cell?, hb]
  · have hb := (h.b i hi).2
    simp [World.cell?, hb]
theorem SdO.first (w : World) (X Y : Int) (hX : gS X) (hY : gS Y) : SdO w.heap.size ((w.alloc (.cells #[.int .i64 X, .int .i64 Y] 3)).alloc (.cells #[.slice (some ⟨w.heap.size, 0, none⟩) 2 2] 73)) (.slice (some ⟨w.heap.size + 1, 0, none⟩) 1 1) 1 X Y (fun _ => w.heap.size) := by
  refine ⟨?_, fun i hi => ⟨Nat.le_refl _, ?_⟩⟩
  · have h := World.ownsRow_lit (base := w.heap.size) (e := 73) (size := 1) (w.alloc (.cells #[.int .i64 X, .int .i64 Y] 3)) #[.slice (some ⟨w.heap.size, 0, none⟩) 2 2] 1 (by simp) (by unfold maxLen; omega) rfl
    rw [World.size_alloc] at h
    exact h
  · obtain rfl : i = 0 := by omega
    rw [sdI_zero hX, sdI_zero hY]
    have hb : Below (w.alloc (.cells #[.int .i64 X, .int .i64 Y] 3)).heap.size (w.alloc (.cells #[.int .i64 X, .int .i64 Y] 3)) ((w.alloc (.cells #[.int .i64 X, .int .i64 Y] 3)).alloc (.cells #[.slice (some ⟨w.heap.size, 0, none⟩) 2 2] 73)) := alloc_b
    rw [hb.block _ (by simp)]
    exact heap_alloc_new w _
theorem SdO.step {B : Nat} {w w' : World} {v v' : Value} {n : Nat} {X Y : Int} {p : Nat → Nat} (h : SdO B w v n X Y p) (hB : B ≤ w.heap.size)
    (g : (((w.alloc (.cells #[.int .i64 (sdI X n), .int .i64 (sdI Y n)] 3)).alloc (.cells #[.slice (some ⟨w.heap.size, 0, none⟩) 2 2] 73))).grownBy w' v.ownBlock)
    (o : w'.ownsRow B 73 1 v' (n + 1) (pL p n ++ [.slice (some ⟨w.heap.size, 0, none⟩) 2 2])) : SdO B w' v' (n + 1) X Y (fun i => if i = n then w.heap.size else p i) := by
  have hk : ∀ k (c : Array Value), w.heap[k]? = some (.cells c 3 (0, 0)) → some k ≠ v.ownBlock := fun k c hc e => by
    obtain ⟨c', fz, hc'⟩ := Lib.ownsRow_kind h.o k e.symm
    rw [hc] at hc'
    injection hc' with hc'
    injection hc' with _ h2
    exact absurd h2 (by decide)
  have b2 : Below w.heap.size w ((w.alloc (.cells #[.int .i64 (sdI X n), .int .i64 (sdI Y n)] 3)).alloc (.cells #[.slice (some ⟨w.heap.size, 0, none⟩) 2 2] 73)) := b2
  have hs : w.heap.size + 2 ≤ ((w.alloc (.cells #[.int .i64 (sdI X n), .int .i64 (sdI Y n)] 3)).alloc (.cells #[.slice (some ⟨w.heap.size, 0, none⟩) 2 2] 73)).heap.size := by simp
  refine ⟨?_, fun i hi => ?_⟩
  · have e : pL (fun i => if i = n then w.heap.size else p i) (n + 1) = pL p n ++ [.slice (some ⟨w.heap.size, 0, none⟩) 2 2] := by
      unfold pL
      rw [List.range_succ, List.map_append]
      congr 1
      · refine List.map_congr_left fun i hi => ?_
        have : i < n := List.mem_range.1 hi
        show Value.slice (some ⟨if i = n then w.heap.size else p i, 0, none⟩) 2 2 = Value.slice (some ⟨p i, 0, none⟩) 2 2
        rw [if_neg (by omega)]
      · simp [pS]
    rw [e]
    exact o
  · by_cases e : i = n
    · subst e
      simp only [if_true]
      refine ⟨hB, ?_⟩
      rw [g.block _ (by omega) (fun e => by have := h.o.lt _ e.symm; omega)]
      have hb : Below (w.alloc (.cells #[.int .i64 (sdI X i), .int .i64 (sdI Y i)] 3)).heap.size (w.alloc (.cells #[.int .i64 (sdI X i), .int .i64 (sdI Y i)] 3)) ((w.alloc (.cells #[.int .i64 (sdI X i), .int .i64 (sdI Y i)] 3)).alloc (.cells #[.slice (some ⟨w.heap.size, 0, none⟩) 2 2] 73)) := alloc_b
      rw [hb.block _ (by simp)]
      exact heap_alloc_new w _
    · simp only [if_neg e]
      obtain ⟨h1, h2⟩ := h.b i (by omega)
      have hl := heap_lt h2
      refine ⟨h1, ?_⟩
      rw [g.block _ (by omega) (hk _ _ h2), b2.block _ hl]
      exact h2
set_option maxRecDepth 100000 in
set_option maxHeartbeats 4000000 in
theorem sides49 (X Y : Int) (w : World) (hX : gS X) (hY : gS Y) : Calls Try.prog 49 #[.int .i64 X, .int .i64 Y] w fun e w' => ∃ v, e = .returned v ∧ SdR w' v (lcN X Y) X Y ∧ Below w.heap.size w w' := by
  obtain ⟨iS, hiS, hzS0, hzS1, hzS2⟩ := info_parts infoS
  have H0 := Hid.mk (SdO.first w X Y hX hY)
  have HX0 : Hid (sdI X 0 = X ∧ sdI Y 0 = Y) := ⟨sdI_zero hX, sdI_zero hY⟩
  go_enter Try.func49, Try.ntmps49
  go_wp2
  go_loopw [0, 1, 5] (fun a b s wr => ∃ (k : Nat) (p : Nat → Nat), k < lcN X Y ∧ a = .int .i64 (sdI X k) ∧ b = .int .i64 (sdI Y k) ∧ Hid (SdO w.heap.size wr s (k + 1) X Y p) ∧ Hid (Below w.heap.size w wr)) (fun a b s _ => (intOf a + intOf b).toNat)
  case atStart => exact ⟨0, _, lcN_pos _ _, by rw [HX0.out.1], by rw [HX0.out.2], H0, b2⟩
  case round =>
    obtain ⟨k, p, hk, rfl, rfl, HS, HB⟩ := hrel
    clear H0 HX0
    have h5 := lcN_le X Y
    have hm := more_iff hX hY k hk
    have q1 := sdI_pos X k
    have q2 := sdI_pos Y k
    have q3 := sdI_le hX k (by omega)
    have q4 := sdI_le hY k (by omega)
    have HE : Hid ((if sdI X k = 1 then 1 else sdI X k / 2) = sdI X (k + 1) ∧ (if sdI Y k = 1 then 1 else sdI Y k / 2) = sdI Y (k + 1)) := ⟨sdI_half hX k (by omega), sdI_half hY k (by omega)⟩
    have HQ : Hid (∀ z : Int, 1 ≤ z → z ≤ 16 → ∀ w : World, Calls Try.prog 74 #[.int .i64 z] w fun e w' => e = .returned (.int .i64 (if z = 1 then 1 else z / 2)) ∧ w' = w) := fun z h1 h2 w => half75 z w h1 h2
    obtain ⟨x, hx⟩ : ∃ x, sdI X k = x := ⟨_, rfl⟩
    obtain ⟨y, hy⟩ : ∃ y, sdI Y k = y := ⟨_, rfl⟩
    rw [hx] at hm q1 q3 HE
    rw [hy] at hm q2 q4 HE
    simp only [hx, hy]
    have HXY : Hid (sdI X k = x ∧ sdI Y k = y) := ⟨hx, hy⟩
    have HH1 := HQ.out x q1 q3
    have HH2 := HQ.out y q2 q4
    rw [HE.out.1] at HH1
    rw [HE.out.2] at HH2
    have HHX := Hid.mk HH1
    have HHY := Hid.mk HH2
    clear hx hy HH1 HH2 HQ
    by_cases hxy : 1 < x ∨ 1 < y
    case neg =>
      have n1 : ¬ 1 < x := fun h => hxy (Or.inl h)
      have n2 : ¬ 1 < y := fun h => hxy (Or.inr h)
      have hkk : k + 1 = lcN X Y := by have := fun h => hxy (hm.2 h); omega
      have n1' : x ≤ 1 := by omega
      have n2' : y ≤ 1 := by omega
      clear hxy hm
      go_wp2
      go_ret
      exact ⟨_, rfl, by rw [← hkk]; exact HS.out.read (by omega), HB.out⟩
    have hk1 : k + 1 < lcN X Y := hm.1 hxy
    have HM : Hid ((sdI X (k + 1) + sdI Y (k + 1)).toNat < (x + y).toNat) := by
      have e1 := HE.out.1
      have e2 := HE.out.2
      show _ < _
      rw [← e1, ← e2]
      split <;> split <;> omega
    generalize hx1 : sdI X (k + 1) = x1 at HHX HHY HM HE
    generalize hy1 : sdI Y (k + 1) = y1 at HHX HHY HM HE
    have HXY1 : Hid (sdI X (k + 1) = x1 ∧ sdI Y (k + 1) = y1) := ⟨hx1, hy1⟩
    clear hx1 hy1 hm
    by_cases c1 : 1 < x
    case' neg => have c2 : 1 < y := by rcases hxy with h | h; exact absurd h c1; exact h
    all_goals
      clear hxy
      have BW : Hid (w.heap.size ≤ wr.heap.size) := HB.out.size
      go_wp2_with (first | (go_at_call 74; (with_reducible show Calls Try.prog 74 #[.int .i64 x] _ _); refine (HHX.out _).mono ?_; rintro e w2 ⟨rfl, hw⟩; subst w2) | (go_at_call 74; (with_reducible show Calls Try.prog 74 #[.int .i64 y] _ _); refine (HHY.out _).mono ?_; rintro e w2 ⟨rfl, hw⟩; subst w2) | (at_builtin; refine wpList_append_own _ rfl _ _ 71 rfl w.heap.size 73 iS (.slice none 0 0) 1 24 Try.underlying71 hiS hzS0 hzS1 hzS2 rfl (by decide) _ (k + 1) _ rfl ((HS.out.o.alloc _).alloc _) ⟨wr.heap.size + 1, 0, none⟩ 1 1 [.slice (some ⟨wr.heap.size, 0, none⟩) 2 2] rfl rfl ?_ ?_ ?_ ?_ ?_ ?_))
      · intro j u hu
        have hj : j = 0 := by
          cases j with
          | zero => rfl
          | succ j => simp at hu
        subst hj
        have hu2 : Value.slice (some ⟨wr.heap.size, 0, none⟩) 2 2 = u := by simpa using hu
        subst hu2
        simp [Addr.add]
      · intro u hu
        have : u = Value.slice (some ⟨wr.heap.size, 0, none⟩) 2 2 := by simpa using hu
        rw [this]
        rfl
      · unfold maxLen; omega
      · omega
      · have := BW.out; simp; omega
      · intro v' w' hown hgrow _
        have HN := Hid.mk (HS.out.step BW.out (by rw [HXY1.out.1, HXY1.out.2]; exact hgrow) hown)
        have HBN : Hid (Below w.heap.size w w') := ((HB.out.alloc HB.out.size _).alloc (Nat.le_trans HB.out.size (by simp)) _).grown hgrow (by have := BW.out; simp; omega) (fun q hq => (HS.out.o.lt q hq).1)
        clear hown hgrow HS HB
        go_wp2
        go_roundw
        case rel => exact ⟨k + 1, _, hk1, by rw [HXY1.out.1], by rw [HXY1.out.2], HN, HBN⟩
        case measure => exact HM.out
end Go.Proofs.Ythkngcdfnemhaaa
