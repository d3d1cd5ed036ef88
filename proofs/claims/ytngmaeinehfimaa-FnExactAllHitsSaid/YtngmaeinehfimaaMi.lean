/- All hits of a ray: the model and the program. -/
import Derived.Test.YtngmaeinehfimaaMh
import Derived.Test.YtngmaeinehfimaaLh
import Derived.Shelf.SlSortCmp.NoneTotal
namespace Go.Proofs.Ytngmaeinehfimaa
open Go.ChangeShapes Go.WideShapes Go.ChangeAt Go.RowKit
set_option linter.unusedVariables false
/-- All hits of a ray, in order; none where blocks and ray are not as they may be. -/
def alH (L : List TB) (F W : List Int) : List TupH := match absB L && grB F W with
  | true => hitsM (hP L F W) (hA L F W) (hD L F W) L.length
  | false => []
/-- A row of hits of one's own. -/
def HV (B : Nat) (w : World) (r : Value) (M : List TupH) : Prop := RowHV w r M.length (atH0 M) (atH1 M) (atH2 M) ∧ ∀ g, r.ownBlock = some g → B ≤ g ∧ g < w.heap.size
theorem HV.next {B : Nat} {w w' : World} {r : Value} {M : List TupH} (h : HV B w r M) (b : Below w.heap.size w w') : HV B w' r M := ⟨h.1.next b, fun g hg => ⟨(h.2 g hg).1, Nat.lt_of_lt_of_le (h.2 g hg).2 b.size⟩⟩
theorem HV.nil (B : Nat) (w : World) : HV B w (.slice none 0 0) [] := ⟨Or.inl ⟨rfl, rfl⟩, fun g hg => by simp [Value.ownBlock] at hg⟩
theorem HR.hv {B : Nat} {w : World} {r : Value} {M : List TupH} (h : HR B w r M) : HV B w r M := ⟨h.rowv, h.lt⟩
theorem alH_len (L : List TB) (F W : List Int) : (alH L F W).length ≤ 24 := by
  unfold alH
  cases hb : absB L
  · exact Nat.zero_le _
  · cases hr : grB F W
    · exact Nat.zero_le _
    · have h := (abs_parts hb).1
      have := hitsM_len (P := hP L F W) (A := hA L F W) (D := hD L F W) L.length
      exact Nat.le_trans this h
set_option maxRecDepth 100000 in
set_option maxHeartbeats 4000000 in
theorem mallh (v x y : Value) (L : List TB) (F W : List Int) (w : World) (U : BRow w v L) (X : ARow w x F) (Y : ARow w y W) (hl : L.length ≤ 9223372036854775807) (hx : ∀ i, i < L.length → (tb L i).1.length ≤ 9223372036854775807 ∧ (tb L i).2.length ≤ 9223372036854775807) (hf : F.length ≤ 9223372036854775807) (hw : W.length ≤ 9223372036854775807) : Calls Try.prog 41 #[v, .agg #[x, y]] w fun e w' => ∃ r, e = .returned (.tuple #[r, .bool (absB L && grB F W)]) ∧ HV w.heap.size w' r (alH L F W) ∧ Below w.heap.size w w' := by
  have HB1 : Hid (∀ w', Below w.heap.size w w' → Calls Try.prog 56 #[v] w' fun e w'' => e = .returned (.bool (absB L)) ∧ Below w'.heap.size w' w'') := fun w' b => mblocks v L w' (U.next b) hl hx
  have HB2 : Hid (∀ w', Below w.heap.size w w' → Calls Try.prog 17 #[.agg #[x, y]] w' fun e w'' => e = .returned (.bool (grB F W)) ∧ Below w'.heap.size w' w'') := fun w' b => mgoodr x y F W w' (X.next b) (Y.next b) hf hw
  have HM : Hid (absB L = true → grB F W = true → ∀ w', Below w.heap.size w w' → Calls Try.prog 57 #[v, .agg #[x, y]] w' fun e w'' => ∃ r, e = .returned r ∧ HV w.heap.size w'' r (alH L F W) ∧ Below w'.heap.size w' w'') := fun hb hr w' b => (mall v x y L F W w' (U.next b) (X.next b) (Y.next b) hb hr).mono fun e w2 ⟨r, h1, h2, h3⟩ => ⟨r, h1, by unfold alH; rw [hb, hr]; exact (h2.low b.size).hv, h3⟩
  have HN : Hid ((absB L && grB F W) = false → alH L F W = []) := fun h => by unfold alH; rw [h]
  obtain ⟨ad, c, rfl, -⟩ := U
  obtain ⟨fd, fc, rfl, -⟩ := X
  obtain ⟨gd, gc, rfl, -⟩ := Y
  generalize L.length = n at HB1 HM hl hx ⊢
  generalize F.length = fl at HB2 HM hf ⊢
  generalize W.length = gl at HB2 HM hw ⊢
  generalize alH L F W = M at HM HN ⊢
  obtain ⟨W0, hW0⟩ : ∃ W0, w.alloc (.cells #[.slice fd fl fc, .slice gd gl gc] 35) = W0 := ⟨_, rfl⟩
  have BW : Below w.heap.size w W0 := by rw [← hW0]; exact alloc_b
  have CR : C2 W0 w.heap.size (.slice fd fl fc) (.slice gd gl gc) := by rw [← hW0]; exact C2.new w _ _ _
  have C1 := HB1.out W0 BW
  clear HB1 hl hx hf hw
  cases hb : absB L
  · rw [hb] at C1 HN
    have HN2 : Hid (M = []) := HN.out rfl
    clear HB2 HM HN hb CR
    go_enter Try.func41, Try.ntmps41
    go_wp2_with (go_at_call 56; refine C1.mono ?_; rintro e w2 ⟨rfl, B2⟩)
    exact bodyPost_ret (v := .tuple #[.slice none 0 0, .bool false]) (by simp [results, Try.results41, go_sem]) rfl ⟨_, rfl, by rw [HN2.out]; exact HV.nil _ _, BW.trans (B2.mono BW.size)⟩
  · rw [hb] at C1 HN
    have HM := Hid.mk (HM.out hb)
    cases hr : grB F W
    · rw [hr] at HB2 HN
      have HN2 : Hid (M = []) := HN.out rfl
      clear HM HN hb hr
      go_enter Try.func41, Try.ntmps41
      go_wp2_with (first
        | (go_at_call 56; refine C1.mono ?_; rintro e w2 ⟨rfl, B2⟩; (have BW2 := BW.trans (B2.mono BW.size)); (have CR2 := CR.next B2); (have r0 := CR2.c0); (have r1 := CR2.c1))
        | (go_at_call 17; refine (HB2.out _ BW2).mono ?_; rintro e w3 ⟨rfl, B3⟩))
      exact bodyPost_ret (v := .tuple #[.slice none 0 0, .bool false]) (by simp [results, Try.results41, go_sem]) rfl ⟨_, rfl, by rw [HN2.out]; exact HV.nil _ _, BW2.trans (B3.mono BW2.size)⟩
    · rw [hr] at HB2
      have HM2 := Hid.mk (HM.out hr)
      clear HM HN hb hr
      go_enter Try.func41, Try.ntmps41
      go_wp2_with (first
        | (go_at_call 56; refine C1.mono ?_; rintro e w2 ⟨rfl, B2⟩; (have BW2 := BW.trans (B2.mono BW.size)); (have CR2 := CR.next B2); (have r0 := CR2.c0); (have r1 := CR2.c1))
        | (go_at_call 17; refine (HB2.out _ BW2).mono ?_; rintro e w3 ⟨rfl, B3⟩; (have BW3 := BW2.trans (B3.mono BW2.size)); (have CR3 := CR2.next B3); clear r0 r1; (have r0 := CR3.c0); (have r1 := CR3.c1))
        | (go_at_call 57; refine (HM2.out _ BW3).mono ?_; rintro e w4 ⟨r, rfl, HR4, B4⟩))
      exact bodyPost_ret (v := .tuple #[r, .bool true]) (by simp [results, Try.results41, go_sem]) rfl ⟨_, rfl, HR4, BW3.trans (B4.mono BW3.size)⟩
theorem pmeetT {L : List TB} {F W : List Int} (hb : absB L = true) (hr : grB F W = true) {i : Nat} (hi : i < L.length) (u v x y : Value) (w : World) (U : ARow w u (tb L i).1) (V : ARow w v (tb L i).2) (X : ARow w x F) (Y : ARow w y W) :
    Calls Try.prog 55 #[.agg #[x, y], .agg #[u, v]] w fun e w' => (hP L F W i = true → e = .returned (.tuple #[.agg #[.int .i64 (hA L F W i), .int .i64 (hD L F W i)], .bool true])) ∧ (hP L F W i = false → e = .returned (.tuple #[.agg #[.int .i64 0, .int .i64 0], .bool false])) ∧ Below w.heap.size w w' := by
  obtain ⟨l1, l2, iL, iH, hLH⟩ := gb_parts ((abs_parts hb).2 i hi)
  obtain ⟨l3, l4, iF, iW, hW0⟩ := gr_parts hr
  refine (pmeets u v x y _ _ _ _ w (r3_of U l1) (r3_of V l2) (r3_of X l3) (r3_of Y l4) iL iH iF iW).mono fun e w' ⟨h1, h2⟩ => ⟨fun h => ?_, fun h => ?_, h2⟩
  · rw [h1]; unfold hiV; unfold hP at h; rw [h]; rfl
  · rw [h1]; unfold hiV; unfold hP at h; rw [h]
theorem psort0 (w : World) : Calls Try.prog 75 #[.slice none 0 0, .func (.func 76) #[] #[]] w fun e w' => e = .returned (.tuple #[]) ∧ w' = w := AnyF.slices_SortFunc_none Try.sortHit none 0 _ w
set_option maxHeartbeats 2000000 in
theorem phitOf (n d b : Int) (w : World) : Calls Try.prog 74 #[.agg #[.int .i64 n, .int .i64 d], .int .i64 b] w fun e w' => e = .returned (.agg #[.int .i64 b, .int .i64 n, .int .i64 d]) ∧ Below w.heap.size w w' := by
  go_enter Try.func74, Try.ntmps74
  go_wp2
  exact bodyPost_ret (v := .agg #[.int .i64 b, .int .i64 n, .int .i64 d]) (by simp [results, Try.results74, go_sem]) rfl ⟨rfl, (alloc_b).trans ((alloc_b).mono (by simp))⟩
end Go.Proofs.Ytngmaeinehfimaa
