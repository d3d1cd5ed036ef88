/- The model's sides with where they stand; what holds from level to level of the model's WithMips. -/
import Derived.Test.YthkngcdfnemhaaaBe
import Derived.Laws.AppendOwn
namespace Go.Proofs.Ythkngcdfnemhaaa
open Go.ChangeShapes Go.WideShapes Go.ChangeAt Go.RowKit
set_option linter.unusedVariables false
/-- Rows of sides as they are read, in blocks B to C. -/
def SdF (B C : Nat) (w : World) (v : Value) (n : Nat) (X Y : Int) : Prop := ∃ (g c : Nat) (p : Nat → Nat), v = .slice (some ⟨g, 0, none⟩) n c ∧ (B ≤ g ∧ g < C) ∧ ∀ i, i < n → (B ≤ p i ∧ p i < C) ∧ w.cell? ⟨g, i, none⟩ = some (.slice (some ⟨p i, 0, none⟩) 2 2) ∧ w.cell? ⟨p i, 0, none⟩ = some (.int .i64 (sdI X i)) ∧ w.cell? ⟨p i, 1, none⟩ = some (.int .i64 (sdI Y i))
theorem SdO.readf {B : Nat} {w : World} {v : Value} {n : Nat} {X Y : Int} {p : Nat → Nat} (h : SdO B w v n X Y p) (hn : 0 < n) : SdF B w.heap.size w v n X Y := by
  obtain ⟨g, c, hv⟩ : ∃ g c, v = .slice (some ⟨g, 0, none⟩) n c := by
    rcases h.o.2 with ⟨_, h0⟩ | ⟨g, c, _, hv, _⟩
    · omega
    · exact ⟨g, c, hv⟩
  subst hv
  refine ⟨g, c, p, rfl, h.o.lt g rfl, fun i hi => ⟨⟨(h.b i hi).1, heap_lt (h.b i hi).2⟩, ?_, ?_, ?_⟩⟩
  · rw [h.o.cellAt i (by omega)]
    simp [hi, pL, pS]
  · have hb := (h.b i hi).2
    simp [World.cell?, hb]
  · have hb := (h.b i hi).2
    simp [World.cell?, hb]
theorem SdF.block {B C : Nat} {w w' : World} {v : Value} {n : Nat} {X Y : Int} (h : SdF B C w v n X Y) (b : ∀ k, B ≤ k → k < C → w'.heap[k]? = w.heap[k]?) : SdF B C w' v n X Y := by
  obtain ⟨g, c, p, rfl, hg, h⟩ := h
  refine ⟨g, c, p, rfl, hg, fun i hi => ?_⟩
  obtain ⟨h0, h1, h2, h3⟩ := h i hi
  exact ⟨h0, (World.cell?_of_block (w := w) (a := ⟨g, i, none⟩) (b g hg.1 hg.2)).trans h1, (World.cell?_of_block (w := w) (a := ⟨p i, 0, none⟩) (b _ h0.1 h0.2)).trans h2, (World.cell?_of_block (w := w) (a := ⟨p i, 1, none⟩) (b _ h0.1 h0.2)).trans h3⟩
theorem SdF.next {B C : Nat} {w w' : World} {v : Value} {n : Nat} {X Y : Int} (h : SdF B C w v n X Y) (hC : C ≤ w.heap.size) (b : Below w.heap.size w w') : SdF B C w' v n X Y := h.block (fun k _ hk => b.block k (by omega))
structure Lq (tb B C : Nat) (s y l : Int) (NL : Nat) (sv : Value) (MF : Nat → List Int) (V : World) (j : Nat) (us : List Value) (lv : Value) (w : World) : Prop where
  t : C4 w tb (.int .i64 s) (.int .i64 y) (.int .i64 l) lv
  o : T8 (tb + 1) w lv us
  r : Lv (tb + 1) w us MF
  S : SdF B C w sv NL s y
  d : ∀ q, lv.ownBlock = some q → q < B ∨ C ≤ q
  b : Below tb V w
  h : us.length = j + 1
  z : C ≤ w.heap.size
  z1 : tb < B
theorem Lq.next {tb B C : Nat} {s y l : Int} {NL : Nat} {sv : Value} {MF : Nat → List Int} {V : World} {j : Nat} {us : List Value} {lv : Value} {w w' : World} (h : Lq tb B C s y l NL sv MF V j us lv w) (b : Below w.heap.size w w') : Lq tb B C s y l NL sv MF V j us lv w' := ⟨h.t.next b, h.o.next b, h.r.next b, h.S.next h.z b, h.d, h.b.trans (b.mono (Nat.le_of_lt h.t.hi)), h.h, Nat.le_trans h.z b.size, h.z1⟩
theorem Lq.step {tb B C : Nat} {s y l : Int} {NL : Nat} {sv v : Value} {MF : Nat → List Int} {V : World} {j : Nat} {us : List Value} {lv : Value} {w w6 w8 : World} {o : Obj} {g cap : Nat} (h : Lq tb B C s y l NL sv MF V j us lv w) (B6 : Below w.heap.size w w6) (Y6 : Y8 w.heap.size w6 v (MF (j + 1)))
    (hgr : (w6.alloc o).grownBy w8 lv.ownBlock) (HT : T8 (tb + 1) w8 (.slice (some ⟨g, 0, none⟩) (us.length + 1) cap) (us ++ [v])) (hgo : lv.ownBlock = some g ∨ g = (w6.alloc o).heap.size) :
    Lq tb B C s y l NL sv MF V (j + 1) (us ++ [v]) (.slice (some ⟨g, 0, none⟩) (us.length + 1) cap) (w8.setCell ⟨tb, 3, none⟩ (.slice (some ⟨g, 0, none⟩) (us.length + 1) cap)) ∧ C4 w8 tb (.int .i64 s) (.int .i64 y) (.int .i64 l) lv := by
  have h7 := (h.next B6).next (alloc_b (o := o))
  have Y7 := Y6.next (alloc_b (o := o))
  have w67 : w6.heap.size ≤ (w6.alloc o).heap.size := alloc_b.size
  have w66 : w.heap.size ≤ w6.heap.size := B6.size
  have hz := h.z
  generalize w6.alloc o = w7 at *
  have lvtb : ∀ q, lv.ownBlock = some q → tb + 1 ≤ q := fun q hq => (h.o.lt q hq).1
  have T8n : C4 w8 tb (.int .i64 s) (.int .i64 y) (.int .i64 l) lv := h7.t.block (hgr.block tb h7.t.hi (fun e => by have := lvtb tb e.symm; omega)) hgr.size
  have R8 := h7.r.grown hgr (fun i hi => by
    cases e : (us.getD i (.slice none 0 0)).ownBlock with
    | none => exact Or.inl rfl
    | some q => exact Or.inr (fun e2 => kne (h7.r.r i hi).1 h7.o.1 (by decide) q e e2.symm))
  have Y8n := Y7.grown hgr (by
    cases e : v.ownBlock with
    | none => exact Or.inl rfl
    | some q => exact Or.inr (fun e2 => kne Y7.1 h7.o.1 (by decide) q e e2.symm))
  have S8 : SdF B C w8 sv NL s y := h7.S.block (fun k k1 k2 => hgr.block k (by have := h7.z; omega) (fun e => by have := h.d k e.symm; omega))
  have b8 : Below tb V w8 := h7.b.trans (below_grown (Below.refl _ _) (Nat.le_of_lt h7.t.hi) hgr (fun q hq => by have := lvtb q hq; omega))
  have gtb : tb < g := by
    rcases hgo with e | e
    · have := lvtb g e; omega
    · have := h7.t.hi; omega
  have gd : g < B ∨ C ≤ g := by
    rcases hgo with e | e
    · exact h.d g e
    · have := h7.z; omega
  have O9 := (Only.refl tb w8).setCell 3 (.slice (some ⟨g, 0, none⟩) (us.length + 1) cap)
  have L9 := R8.grown (only_grown O9) (fun i hi => by
    cases e : (us.getD i (.slice none 0 0)).ownBlock with
    | none => exact Or.inl rfl
    | some q => exact Or.inr (by have := (R8.lt i q hi e).1; simp; omega))
  have Y9 := Y8n.grown (only_grown O9) (by
    cases e : v.ownBlock with
    | none => exact Or.inl rfl
    | some q => exact Or.inr (by have := (Y8n.lt q e).1; have := h.t.hi; simp; omega))
  have hlen : (us ++ [v]).length = us.length + 1 := by simp
  refine ⟨⟨T8n.s3 _, HT.grown (only_grown O9) (Or.inr (by simp [Value.ownBlock]; omega)), L9.snoc (C := w.heap.size) (by rw [show MF us.length = MF (j + 1) by rw [h.h]]; exact Y9) (fun i q hi hq => (h.r.lt i q hi hq).2) (by have := h.t.hi; omega), S8.block (fun k k1 k2 => O9.block k (by have := hgr.size; have := h7.z; omega) (by have := h.z1; omega)), fun q hq => ?_, b8.trans (O9.below (Nat.le_refl _) (by have := hgr.size; have := h7.t.hi; omega)), by rw [hlen, h.h], by have := O9.size; have := hgr.size; have := h7.z; omega, h.z1⟩, T8n⟩
  simp [Value.ownBlock] at hq
  subst hq
  exact gd
set_option maxRecDepth 100000 in
set_option maxHeartbeats 4000000 in
theorem sides49f (X Y : Int) (w : World) (hX : gS X) (hY : gS Y) : Calls Try.prog 49 #[.int .i64 X, .int .i64 Y] w fun e w' => ∃ v, e = .returned v ∧ SdF w.heap.size w'.heap.size w' v (lcN X Y) X Y ∧ Below w.heap.size w w' := by
  obtain ⟨iS, hiS, hzS0, hzS1, hzS2⟩ := info_parts infoS
  have H0 := Hid.mk (SdO.first w X Y hX hY)
  have HX0 : Hid (sdI X 0 = X ∧ sdI Y 0 = Y) := ⟨sdI_zero hX, sdI_zero hY⟩
  go_enter Try.func49, Try.ntmps49
  go_wp2
  go_loopw [0, 1, 5] (fun a b s wr => ∃ (k : Nat) (p : Nat → Nat), k < lcN X Y ∧ a = .int .i64 (sdI X k) ∧ b = .int .i64 (sdI Y k) ∧ Hid (SdO w.heap.size wr s (k + 1) X Y p) ∧ Hid (Below w.heap.size w wr)) (fun a b s _ => (intOf a + intOf b).toNat)
  case atStart => exact ⟨0, _, lcN_pos _ _, by rw [HX0.out.1], by rw [HX0.out.2], H0, b2⟩
  case round =>
    obtain ⟨k, p, hk, rfl, rfl, HS, HB⟩ := hrel
    clear H0 HX0
    have h5 := lcN_le X Y
    have hm := more_iff hX hY k hk
    have q1 := sdI_pos X k
    have q2 := sdI_pos Y k
    have q3 := sdI_le hX k (by omega)
    have q4 := sdI_le hY k (by omega)
    have HE : Hid ((if sdI X k = 1 then 1 else sdI X k / 2) = sdI X (k + 1) ∧ (if sdI Y k = 1 then 1 else sdI Y k / 2) = sdI Y (k + 1)) := ⟨sdI_half hX k (by omega), sdI_half hY k (by omega)⟩
    have HQ : Hid (∀ z : Int, 1 ≤ z → z ≤ 16 → ∀ w : World, Calls Try.prog 74 #[.int .i64 z] w fun e w' => e = .returned (.int .i64 (if z = 1 then 1 else z / 2)) ∧ w' = w) := fun z h1 h2 w => half75 z w h1 h2
    obtain ⟨x, hx⟩ : ∃ x, sdI X k = x := ⟨_, rfl⟩
    obtain ⟨y, hy⟩ : ∃ y, sdI Y k = y := ⟨_, rfl⟩
    rw [hx] at hm q1 q3 HE
    rw [hy] at hm q2 q4 HE
    simp only [hx, hy]
    have HXY : Hid (sdI X k = x ∧ sdI Y k = y) := ⟨hx, hy⟩
    have HH1 := HQ.out x q1 q3
    have HH2 := HQ.out y q2 q4
    rw [HE.out.1] at HH1
    rw [HE.out.2] at HH2
    have HHX := Hid.mk HH1
    have HHY := Hid.mk HH2
    clear hx hy HH1 HH2 HQ
    by_cases hxy : 1 < x ∨ 1 < y
    case neg =>
      have n1 : ¬ 1 < x := fun h => hxy (Or.inl h)
      have n2 : ¬ 1 < y := fun h => hxy (Or.inr h)
      have hkk : k + 1 = lcN X Y := by have := fun h => hxy (hm.2 h); omega
      have n1' : x ≤ 1 := by omega
      have n2' : y ≤ 1 := by omega
      clear hxy hm
      go_wp2
      go_ret
      exact ⟨_, rfl, by rw [← hkk]; exact HS.out.readf (by omega), HB.out⟩
    have hk1 : k + 1 < lcN X Y := hm.1 hxy
    have HM : Hid ((sdI X (k + 1) + sdI Y (k + 1)).toNat < (x + y).toNat) := by
      have e1 := HE.out.1
      have e2 := HE.out.2
      show _ < _
      rw [← e1, ← e2]
      split <;> split <;> omega
    generalize hx1 : sdI X (k + 1) = x1 at HHX HHY HM HE
    generalize hy1 : sdI Y (k + 1) = y1 at HHX HHY HM HE
    have HXY1 : Hid (sdI X (k + 1) = x1 ∧ sdI Y (k + 1) = y1) := ⟨hx1, hy1⟩
    clear hx1 hy1 hm
    by_cases c1 : 1 < x
    case' neg => have c2 : 1 < y := by rcases hxy with h | h; exact absurd h c1; exact h
    all_goals
      clear hxy
      have BW : Hid (w.heap.size ≤ wr.heap.size) := HB.out.size
      go_wp2_with (first | (go_at_call 74; (with_reducible show Calls Try.prog 74 #[.int .i64 x] _ _); refine (HHX.out _).mono ?_; rintro e w2 ⟨rfl, hw⟩; subst w2) | (go_at_call 74; (with_reducible show Calls Try.prog 74 #[.int .i64 y] _ _); refine (HHY.out _).mono ?_; rintro e w2 ⟨rfl, hw⟩; subst w2) | (at_builtin; refine wpList_append_own _ rfl _ _ 71 rfl w.heap.size 73 iS (.slice none 0 0) 1 24 Try.underlying71 hiS hzS0 hzS1 hzS2 rfl (by decide) _ (k + 1) _ rfl ((HS.out.o.alloc _).alloc _) ⟨wr.heap.size + 1, 0, none⟩ 1 1 [.slice (some ⟨wr.heap.size, 0, none⟩) 2 2] rfl rfl ?_ ?_ ?_ ?_ ?_ ?_))
      · intro j u hu
        have hj : j = 0 := by
          cases j with
          | zero => rfl
          | succ j => simp at hu
        subst hj
        have hu2 : Value.slice (some ⟨wr.heap.size, 0, none⟩) 2 2 = u := by simpa using hu
        subst hu2
        simp [Addr.add]
      · intro u hu
        have : u = Value.slice (some ⟨wr.heap.size, 0, none⟩) 2 2 := by simpa using hu
        rw [this]
        rfl
      · unfold maxLen; omega
      · omega
      · have := BW.out; simp; omega
      · intro v' w' hown hgrow _
        have HN := Hid.mk (HS.out.step BW.out (by rw [HXY1.out.1, HXY1.out.2]; exact hgrow) hown)
        have HBN : Hid (Below w.heap.size w w') := ((HB.out.alloc HB.out.size _).alloc (Nat.le_trans HB.out.size (by simp)) _).grown hgrow (by have := BW.out; simp; omega) (fun q hq => (HS.out.o.lt q hq).1)
        clear hown hgrow HS HB
        go_wp2
        go_roundw
        case rel => exact ⟨k + 1, _, hk1, by rw [HXY1.out.1], by rw [HXY1.out.2], HN, HBN⟩
        case measure => exact HM.out
end Go.Proofs.Ythkngcdfnemhaaa
