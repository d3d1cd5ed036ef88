/- All blocks of a list are good: the program and the model. -/
import Derived.Test.YtngmaeinehfimaaMa
import Derived.Test.YtngmaeinehfimaaLd
namespace Go.Proofs.Ytngmaeinehfimaa
open Go.ChangeShapes Go.WideShapes Go.ChangeAt Go.RowKit
set_option linter.unusedVariables false
/-- The first n are good. -/
def bgB (L : List TB) : Nat → Bool
  | 0 => true
  | n + 1 => bgB L n && gbB (tb L n).1 (tb L n).2
theorem bg_iff {L : List TB} : ∀ {n : Nat}, bgB L n = true ↔ ∀ i, i < n → gbB (tb L i).1 (tb L i).2 = true
  | 0 => ⟨fun _ i hi => absurd hi (Nat.not_lt_zero _), fun _ => rfl⟩
  | n + 1 => by
    rw [bgB, Bool.and_eq_true, bg_iff (n := n)]
    exact ⟨fun ⟨a, b⟩ i hi => if e : i = n then e ▸ b else a i (by omega), fun a => ⟨fun i hi => a i (by omega), a n (by omega)⟩⟩
theorem bg_no {L : List TB} {n i : Nat} (h : i < n) (k : gbB (tb L i).1 (tb L i).2 = false) : bgB L n = false := by
  cases hb : bgB L n
  · rfl
  · rw [bg_iff.1 hb i h] at k; cases k
/-- A list of blocks as it may be. -/
def absB (L : List TB) : Bool := decide (L.length ≤ 24) && bgB L L.length
set_option maxRecDepth 100000 in
set_option maxHeartbeats 4000000 in
theorem mblocks (v : Value) (L : List TB) (w : World) (U : BRow w v L) (hl : L.length ≤ 9223372036854775807) (hx : ∀ i, i < L.length → (tb L i).1.length ≤ 9223372036854775807 ∧ (tb L i).2.length ≤ 9223372036854775807) :
    Calls Try.prog 56 #[v] w fun e w' => e = .returned (.bool (absB L)) ∧ Below w.heap.size w w' := by
  obtain ⟨ad, c, rfl, hrow⟩ := U
  have HE : Hid (∀ i, i < L.length → ∃ g o ua ul uc xa xl xc, ad = some ⟨g, o, none⟩ ∧ w.cell? ⟨g, o + i * 2, none⟩ = some (.slice ua ul uc) ∧ w.cell? ⟨g, o + i * 2 + 1, none⟩ = some (.slice xa xl xc) ∧ ∀ w' : World, Below w.heap.size w w' → Calls Try.prog 12 #[.agg #[.slice ua ul uc, .slice xa xl xc]] w' fun e w'' => e = .returned (.bool (gbB (tb L i).1 (tb L i).2)) ∧ Below w'.heap.size w' w'') := fun i hi => by
    obtain ⟨g, o, u, x, e1, e2, e3, e4, e5⟩ := hrow i hi
    have e4' := e4
    have e5' := e5
    obtain ⟨ua, uc, rfl, -⟩ := e4
    obtain ⟨xa, xc, rfl, -⟩ := e5
    exact ⟨g, o, _, _, _, _, _, _, e1, e2, e3, fun w' b => mgoodb _ _ _ _ w' (e4'.next b) (e5'.next b) (hx i hi).1 (hx i hi).2⟩
  have HF : Hid (∀ i, i < L.length → gbB (tb L i).1 (tb L i).2 = false → bgB L L.length = false) := fun i hi h => bg_no hi h
  have HT : Hid ((∀ i, i < L.length → gbB (tb L i).1 (tb L i).2 = true) → bgB L L.length = true) := fun h => bg_iff.2 h
  unfold absB
  generalize bgB L L.length = rb at HF HT ⊢
  clear hrow hx
  obtain ⟨n, hn⟩ : ∃ n, L.length = n := ⟨_, rfl⟩
  rw [hn] at HE HF HT hl ⊢
  clear hn
  by_cases h24 : n ≤ 24
  · rw [decide_eq_true h24, Bool.true_and]
    go_enter Try.func56, Try.ntmps56
    go_wp2
    go_loopw [10] (fun i wr => ∃ k : Nat, k ≤ n ∧ i = .int .i64 k ∧ Hid (∀ i, i < k → gbB (tb L i).1 (tb L i).2 = true) ∧ Below w.heap.size w wr) (fun i _ => n - (intOf i).toNat)
    case atStart => exact ⟨0, Nat.zero_le _, rfl, fun i hi => by omega, Below.refl _ _⟩
    case round =>
      obtain ⟨k, hk, rfl, HK, HB⟩ := hrel
      by_cases hkn : k < n
      · have i1 : (k : Int) < (n : Int) := by omega
        have i0 : (0 : Int) ≤ (k : Int) := by omega
        obtain ⟨g, o, ua, ul, uc, xa, xl, xc, rfl, hc0, hc1, hC⟩ := HE.out k hkn
        have c0 := cell_nx hc0 HB
        have c1 := cell_nx hc1 HB
        have HC := Hid.mk hC
        have HG := Hid.mk (HF.out k hkn)
        have HN : Hid (gbB (tb L k).1 (tb L k).2 = true → ∀ i, i < k + 1 → gbB (tb L i).1 (tb L i).2 = true) := fun h i hi => by
          by_cases e : i = k
          · subst e; exact h
          · exact HK.out i (by omega)
        clear hc0 hc1 hC HE HF HT HK
        have WB : ∀ (o1 : Obj), Below w.heap.size w (wr.alloc o1) := fun o1 => HB.alloc HB.size o1
        have HW := Hid.mk WB
        clear WB
        cases hb : gbB (tb L k).1 (tb L k).2
        · rw [hb] at HC HG
          have HG2 := Hid.mk (HG.out rfl)
          clear HG HN hb
          go_wp2_with (go_at_call 12; refine (HC.out _ (HW.out _)).mono ?_; rintro e w2 ⟨rfl, B2⟩; (have B3 := (HW.out _).trans (B2.mono (HW.out _).size)))
          go_ret
          exact ⟨by rw [HG2.out]; rfl, B3⟩
        · rw [hb] at HC HN
          have HN2 := Hid.mk (HN.out rfl)
          clear HG HN hb
          go_wp2_with (go_at_call 12; refine (HC.out _ (HW.out _)).mono ?_; rintro e w2 ⟨rfl, B2⟩; (have B3 := (HW.out _).trans (B2.mono (HW.out _).size)))
          go_roundw
          case rel => exact ⟨k + 1, by omega, by go_num, HN2, B3⟩
          case measure => simp [intOf]; omega
      · obtain rfl : n = k := by omega
        have i1 : ¬ (n : Int) < (n : Int) := by omega
        have HT2 := Hid.mk (HT.out HK.out)
        go_wp2
        go_ret
        exact ⟨by rw [HT2.out]; rfl, HB⟩
  · have h1 : (24 : Int) < (n : Int) := by omega
    rw [decide_eq_false h24, Bool.false_and]
    clear HE HF HT
    go_enter Try.func56, Try.ntmps56
    go_wp2
    go_ret
    exact ⟨rfl, Below.refl _ _⟩
set_option maxRecDepth 100000 in
set_option maxHeartbeats 2000000 in
theorem pnotgood (u v : Value) (L H : List Int) (w : World) (U : ARow w u L) (V : ARow w v H) (hl : L.length ≤ 9223372036854775807) (hh : H.length ≤ 9223372036854775807) : Calls Try.prog 87 #[.agg #[u, v]] w fun e w' => e = .returned (.bool (!gbB L H)) ∧ Below w.heap.size w w' := by
  have hc : ∀ o, Calls Try.prog 14 #[.agg #[u, v]] (w.alloc o) fun e w' => e = .returned (.bool (gbB L H)) ∧ Below (w.alloc o).heap.size (w.alloc o) w' := fun o => pgoodb u v L H _ (U.next alloc_b) (V.next alloc_b) hl hh
  have HC := Hid.mk hc
  clear hc
  generalize gbB L H = rb at HC ⊢
  obtain ⟨ad, c, rfl, -⟩ := U
  obtain ⟨bd, d, rfl, -⟩ := V
  generalize L.length = n at HC hl ⊢
  generalize H.length = m at HC hh ⊢
  cases rb
  all_goals
    go_enter Try.func87, Try.ntmps87
    go_wp2_with (go_at_call 14; refine (HC.out _).mono ?_; rintro e w2 ⟨rfl, B2⟩)
    go_ret
    exact ⟨rfl, (alloc_b (v := w)).trans (B2.mono (by simp))⟩
set_option maxRecDepth 100000 in
set_option maxHeartbeats 4000000 in
theorem pixb (v : Value) (L : List TB) (w : World) (U : BRow w v L) (hl : L.length ≤ 24) (hx : ∀ i, i < L.length → (tb L i).1.length ≤ 9223372036854775807 ∧ (tb L i).2.length ≤ 9223372036854775807) :
    Calls Try.prog 103 #[v, .func (.func 87) #[] #[]] w fun e w' => (∃ z, e = .returned (.int .i64 z) ∧ IxB z (!bgB L L.length)) ∧ Below w.heap.size w w' := by
  obtain ⟨ad, c, rfl, hrow⟩ := U
  have HE : Hid (∀ i, i < L.length → ∃ g o ua ul uc xa xl xc, ad = some ⟨g, o, none⟩ ∧ w.cell? ⟨g, o + i * 2, none⟩ = some (.slice ua ul uc) ∧ w.cell? ⟨g, o + i * 2 + 1, none⟩ = some (.slice xa xl xc) ∧ ∀ w' : World, Below w.heap.size w w' → Calls Try.prog 87 #[.agg #[.slice ua ul uc, .slice xa xl xc]] w' fun e w'' => e = .returned (.bool (!gbB (tb L i).1 (tb L i).2)) ∧ Below w'.heap.size w' w'') := fun i hi => by
    obtain ⟨g, o, u, x, e1, e2, e3, e4, e5⟩ := hrow i hi
    have e4' := e4
    have e5' := e5
    obtain ⟨ua, uc, rfl, -⟩ := e4
    obtain ⟨xa, xc, rfl, -⟩ := e5
    exact ⟨g, o, _, _, _, _, _, _, e1, e2, e3, fun w' b => pnotgood _ _ _ _ w' (e4'.next b) (e5'.next b) (hx i hi).1 (hx i hi).2⟩
  have HF : Hid (∀ i, i < L.length → gbB (tb L i).1 (tb L i).2 = false → bgB L L.length = false) := fun i hi h => bg_no hi h
  have HT : Hid ((∀ i, i < L.length → gbB (tb L i).1 (tb L i).2 = true) → bgB L L.length = true) := fun h => bg_iff.2 h
  generalize bgB L L.length = rb at HF HT ⊢
  clear hrow hx
  obtain ⟨n, hn⟩ : ∃ n, L.length = n := ⟨_, rfl⟩
  rw [hn] at HE HF HT hl ⊢
  clear hn
  go_enter Try.func103, Try.ntmps103
  go_wp2
  go_loopw [8] (fun i wr => ∃ k : Nat, k ≤ n ∧ i = .int .i64 k ∧ Hid (∀ i, i < k → gbB (tb L i).1 (tb L i).2 = true) ∧ Below w.heap.size w wr) (fun i _ => n - (intOf i).toNat)
  case atStart => exact ⟨0, Nat.zero_le _, rfl, fun i hi => by omega, Below.refl _ _⟩
  case round =>
    obtain ⟨k, hk, rfl, HK, HB⟩ := hrel
    by_cases hkn : k < n
    · have i1 : (k : Int) < (n : Int) := by omega
      have i0 : (0 : Int) ≤ (k : Int) := by omega
      obtain ⟨g, o, ua, ul, uc, xa, xl, xc, rfl, hc0, hc1, hC⟩ := HE.out k hkn
      have c0 := cell_nx hc0 HB
      have c1 := cell_nx hc1 HB
      have hp := hC wr HB
      have HG := Hid.mk (HF.out k hkn)
      have HN : Hid (gbB (tb L k).1 (tb L k).2 = true → ∀ i, i < k + 1 → gbB (tb L i).1 (tb L i).2 = true) := fun h i hi => by
        by_cases e : i = k
        · subst e; exact h
        · exact HK.out i (by omega)
      clear hc0 hc1 hC HE HF HT HK
      cases hb : gbB (tb L k).1 (tb L k).2
      · rw [hb] at hp HG
        have HG2 := Hid.mk (HG.out rfl)
        clear HG HN hb
        go_wp2_with (go_at_call 87; refine hp.mono ?_; rintro e w2 ⟨rfl, B2⟩)
        go_ret
        exact ⟨⟨_, rfl, by unfold IxB; rw [HG2.out]; exact decide_eq_true i0⟩, HB.trans (B2.mono HB.size)⟩
      · rw [hb] at hp HN
        have HN2 := Hid.mk (HN.out rfl)
        clear HG HN hb
        go_wp2_with (go_at_call 87; refine hp.mono ?_; rintro e w2 ⟨rfl, B2⟩)
        go_roundw
        case rel => exact ⟨k + 1, by omega, by go_num, HN2, HB.trans (B2.mono HB.size)⟩
        case measure => simp [intOf]; omega
    · obtain rfl : n = k := by omega
      have i1 : ¬ (n : Int) < (n : Int) := by omega
      have HT2 := Hid.mk (HT.out HK.out)
      go_wp2
      go_ret
      exact ⟨⟨-1, rfl, by unfold IxB; rw [HT2.out]; rfl⟩, HB⟩
set_option maxRecDepth 100000 in
theorem pixc (v : Value) (L : List TB) (w : World) (U : BRow w v L) (hl : L.length ≤ 24) (hx : ∀ i, i < L.length → (tb L i).1.length ≤ 9223372036854775807 ∧ (tb L i).2.length ≤ 9223372036854775807) :
    Calls Try.prog 86 #[v, .func (.func 87) #[] #[]] w fun e w' => e = .returned (.bool (!bgB L L.length)) ∧ Below w.heap.size w w' := by
  have h := pixb v L w U hl hx
  obtain ⟨oa, oc, rfl, _⟩ := U
  generalize bgB L L.length = B at h ⊢
  clear hx
  go_enter Try.func86, Try.ntmps86
  go_wp2_with (go_at_call 103; refine h.mono ?_; rintro e w2 ⟨⟨z, rfl, hz⟩, B2⟩; unfold IxB at hz)
  go_ret
  exact ⟨rfl, B2⟩
set_option maxRecDepth 100000 in
set_option maxHeartbeats 2000000 in
theorem pblocks (v : Value) (L : List TB) (w : World) (U : BRow w v L) (hl : L.length ≤ 9223372036854775807) (hx : ∀ i, i < L.length → (tb L i).1.length ≤ 9223372036854775807 ∧ (tb L i).2.length ≤ 9223372036854775807) :
    Calls Try.prog 60 #[v] w fun e w' => e = .returned (.bool (absB L)) ∧ Below w.heap.size w w' := by
  have hc : L.length ≤ 24 → Calls Try.prog 86 #[v, .func (.func 87) #[] #[]] w fun e w' => e = .returned (.bool (!bgB L L.length)) ∧ Below w.heap.size w w' := fun h => pixc v L w U h hx
  unfold absB
  obtain ⟨ad, c, rfl, -⟩ := U
  clear hx
  generalize bgB L L.length = rb at hc ⊢
  generalize L.length = n at hc hl ⊢
  by_cases h24 : n ≤ 24
  · have hc := hc h24
    have h1 : (n : Int) ≤ 24 := by omega
    rw [decide_eq_true h24, Bool.true_and]
    cases rb
    all_goals
      go_enter Try.func60, Try.ntmps60
      go_wp2_with (go_at_call 86; refine hc.mono ?_; rintro e w2 ⟨rfl, B2⟩)
      go_ret
      exact ⟨rfl, B2⟩
  · have h1 : ¬ (n : Int) ≤ 24 := by omega
    rw [decide_eq_false h24, Bool.false_and]
    clear hc
    go_enter Try.func60, Try.ntmps60
    go_wp2
    go_ret
    exact ⟨rfl, Below.refl _ _⟩
end Go.Proofs.Ytngmaeinehfimaa
