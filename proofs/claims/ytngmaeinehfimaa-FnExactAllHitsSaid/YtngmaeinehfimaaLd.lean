/- The model's GoodRay; GoodBlock and GoodRay of the program. -/
import Derived.Test.YtngmaeinehfimaaLc
namespace Go.Proofs.Ytngmaeinehfimaa
open Go.ChangeShapes Go.WideShapes Go.ChangeAt Go.RowKit
set_option linter.unusedVariables false
set_option maxRecDepth 100000 in
set_option maxHeartbeats 8000000 in
theorem mgoodr (u v : Value) (L H : List Int) (w : World) (U : ARow w u L) (V : ARow w v H) (hl : L.length ≤ 9223372036854775807) (hh : H.length ≤ 9223372036854775807) : Calls Try.prog 17 #[.agg #[u, v]] w fun e w' => e = .returned (.bool (grB L H)) ∧ Below w.heap.size w w' := by
  have HU0 : Hid (∀ w', Below w.heap.size w w' → Calls Try.prog 48 #[u] w' fun e w'' => e = .returned (.bool (thB L)) ∧ w'' = w') := fun w' b => mthree u L w' (U.next b) hl
  have HV0 : Hid (∀ w', Below w.heap.size w w' → Calls Try.prog 48 #[v] w' fun e w'' => e = .returned (.bool (thB H)) ∧ w'' = w') := fun w' b => mthree v H w' (V.next b) hh
  obtain ⟨ad, c, rfl, hx⟩ := U
  obtain ⟨bd, d, rfl, hy⟩ := V
  have HTL : Hid (thB L = true → L.length = 3) := fun h => (thB_iff.1 h).1
  have HTH : Hid (thB H = true → H.length = 3) := fun h => (thB_iff.1 h).1
  have HX := Hid.mk hx
  have HY := Hid.mk hy
  unfold grB
  generalize thB L = t1 at HU0 HTL ⊢
  generalize thB H = t2 at HV0 HTH ⊢
  generalize L.length = n at HU0 HTL HX hx hl ⊢
  generalize H.length = m at HV0 HTH HY hy hh ⊢
  have HU : Hid (∀ w', Below w.heap.size w w' → Calls Try.prog 48 #[.slice ad n c] w' fun e w'' => e = .returned (.bool t1) ∧ w'' = w') := HU0
  have HV : Hid (∀ w', Below w.heap.size w w' → Calls Try.prog 48 #[.slice bd m d] w' fun e w'' => e = .returned (.bool t2) ∧ w'' = w') := HV0
  clear HU0 HV0 hx hy hl hh
  cases t1
  case false =>
    rw [Bool.false_and]
    go_enter Try.func17, Try.ntmps17
    go_wp2_with (first | (go_at_call 48; (with_reducible show Calls Try.prog 48 #[.slice ad _ c] _ _); refine (HU.out _ alloc_b).mono ?_; rintro e w2 ⟨rfl, hw⟩; subst w2) | (go_at_call 48; (with_reducible show Calls Try.prog 48 #[.slice bd _ d] _ _); refine (HV.out _ alloc_b).mono ?_; rintro e w3 ⟨rfl, hw⟩; subst w3))
    go_ret
    first | exact ⟨rfl, alloc_b⟩ | (refine ⟨?_, alloc_b⟩; simp; omega)
  have n3 := HTL.out rfl
  subst n3
  cases t2
  case false =>
    rw [Bool.false_and, Bool.true_and]
    go_enter Try.func17, Try.ntmps17
    go_wp2_with (first | (go_at_call 48; (with_reducible show Calls Try.prog 48 #[.slice ad _ c] _ _); refine (HU.out _ alloc_b).mono ?_; rintro e w2 ⟨rfl, hw⟩; subst w2) | (go_at_call 48; (with_reducible show Calls Try.prog 48 #[.slice bd _ d] _ _); refine (HV.out _ alloc_b).mono ?_; rintro e w3 ⟨rfl, hw⟩; subst w3))
    go_ret
    first | exact ⟨rfl, alloc_b⟩ | (refine ⟨?_, alloc_b⟩; simp; omega)
  have m3 := HTH.out rfl
  subst m3
  rw [Bool.true_and, Bool.true_and]
  clear HTL HTH
  obtain ⟨qg, qo, rfl, qr⟩ := HY.out 0 (by omega)
  clear qr
  have q0 : w.cell? ⟨qg, qo + 0, none⟩ = some (.int .i64 (H.getD 0 0)) := by
    obtain ⟨g', o', e1, h⟩ := HY.out 0 (by omega)
    injection e1 with e1
    injection e1 with e1 e2
    subst e1; subst e2
    exact h
  have q1 : w.cell? ⟨qg, qo + 1, none⟩ = some (.int .i64 (H.getD 1 0)) := by
    obtain ⟨g', o', e1, h⟩ := HY.out 1 (by omega)
    injection e1 with e1
    injection e1 with e1 e2
    subst e1; subst e2
    exact h
  have q2 : w.cell? ⟨qg, qo + 2, none⟩ = some (.int .i64 (H.getD 2 0)) := by
    obtain ⟨g', o', e1, h⟩ := HY.out 2 (by omega)
    injection e1 with e1
    injection e1 with e1 e2
    subst e1; subst e2
    exact h
  rw [Nat.add_zero] at q0
  generalize H.getD 0 0 = y0 at q0 ⊢
  generalize H.getD 1 0 = y1 at q1 ⊢
  generalize H.getD 2 0 = y2 at q2 ⊢
  clear HX HY
  have q0 := cell_nx q0 (alloc_b (o := .cells #[.slice ad 3 c, .slice (some ⟨qg, qo, none⟩) 3 d] 35))
  have q1 := cell_nx q1 (alloc_b (o := .cells #[.slice ad 3 c, .slice (some ⟨qg, qo, none⟩) 3 d] 35))
  have q2 := cell_nx q2 (alloc_b (o := .cells #[.slice ad 3 c, .slice (some ⟨qg, qo, none⟩) 3 d] 35))
  by_cases h0 : y0 = 0
  case neg =>
    have g0 : decide (y0 = 0) = false := decide_eq_false h0
    rw [g0, Bool.not_false, Bool.true_or]
    have e0 : (y0 == 0) = false := by simp; exact h0
    go_enter Try.func17, Try.ntmps17
    go_wp2_with (first | (go_at_call 48; (with_reducible show Calls Try.prog 48 #[.slice ad _ c] _ _); refine (HU.out _ alloc_b).mono ?_; rintro e w2 ⟨rfl, hw⟩; subst w2) | (go_at_call 48; (with_reducible show Calls Try.prog 48 #[.slice (some ⟨qg, qo, none⟩) _ d] _ _); refine (HV.out _ alloc_b).mono ?_; rintro e w3 ⟨rfl, hw⟩; subst w3))
    go_ret
    first | exact ⟨rfl, alloc_b⟩ | (refine ⟨?_, alloc_b⟩; simp; omega)
  have g0 : decide (y0 = 0) = true := decide_eq_true h0
  rw [g0, Bool.not_true, Bool.false_or]
  subst h0
  by_cases h1 : y1 = 0
  case neg =>
    have g1 : decide (y1 = 0) = false := decide_eq_false h1
    rw [g1, Bool.not_false, Bool.true_or]
    have e1 : (y1 == 0) = false := by simp; exact h1
    go_enter Try.func17, Try.ntmps17
    go_wp2_with (first | (go_at_call 48; (with_reducible show Calls Try.prog 48 #[.slice ad _ c] _ _); refine (HU.out _ alloc_b).mono ?_; rintro e w2 ⟨rfl, hw⟩; subst w2) | (go_at_call 48; (with_reducible show Calls Try.prog 48 #[.slice (some ⟨qg, qo, none⟩) _ d] _ _); refine (HV.out _ alloc_b).mono ?_; rintro e w3 ⟨rfl, hw⟩; subst w3))
    go_ret
    first | exact ⟨rfl, alloc_b⟩ | (refine ⟨?_, alloc_b⟩; simp; omega)
  have g1 : decide (y1 = 0) = true := decide_eq_true h1
  rw [g1, Bool.not_true, Bool.false_or]
  subst h1
  by_cases h2 : y2 = 0
  case neg =>
    have g2 : decide (y2 = 0) = false := decide_eq_false h2
    rw [g2, Bool.not_false]
    have e2 : (y2 == 0) = false := by simp; exact h2
    go_enter Try.func17, Try.ntmps17
    go_wp2_with (first | (go_at_call 48; (with_reducible show Calls Try.prog 48 #[.slice ad _ c] _ _); refine (HU.out _ alloc_b).mono ?_; rintro e w2 ⟨rfl, hw⟩; subst w2) | (go_at_call 48; (with_reducible show Calls Try.prog 48 #[.slice (some ⟨qg, qo, none⟩) _ d] _ _); refine (HV.out _ alloc_b).mono ?_; rintro e w3 ⟨rfl, hw⟩; subst w3))
    go_ret
    first | exact ⟨rfl, alloc_b⟩ | (refine ⟨?_, alloc_b⟩; simp; omega)
  have g2 : decide (y2 = 0) = true := decide_eq_true h2
  rw [g2, Bool.not_true]
  subst h2
  go_enter Try.func17, Try.ntmps17
  go_wp2_with (first | (go_at_call 48; (with_reducible show Calls Try.prog 48 #[.slice ad _ c] _ _); refine (HU.out _ alloc_b).mono ?_; rintro e w2 ⟨rfl, hw⟩; subst w2) | (go_at_call 48; (with_reducible show Calls Try.prog 48 #[.slice (some ⟨qg, qo, none⟩) _ d] _ _); refine (HV.out _ alloc_b).mono ?_; rintro e w3 ⟨rfl, hw⟩; subst w3))
  go_ret
  first | exact ⟨rfl, alloc_b⟩ | (refine ⟨?_, alloc_b⟩; simp; omega)
set_option maxRecDepth 100000 in
set_option maxHeartbeats 8000000 in
theorem pgoodb (u v : Value) (L H : List Int) (w : World) (U : ARow w u L) (V : ARow w v H) (hl : L.length ≤ 9223372036854775807) (hh : H.length ≤ 9223372036854775807) : Calls Try.prog 14 #[.agg #[u, v]] w fun e w' => e = .returned (.bool (gbB L H)) ∧ Below w.heap.size w w' := by
  have HU0 : Hid (∀ w', Below w.heap.size w w' → Calls Try.prog 50 #[u] w' fun e w'' => e = .returned (.bool (thB L)) ∧ w'' = w') := fun w' b => pthree u L w' (U.next b) hl
  have HV0 : Hid (∀ w', Below w.heap.size w w' → Calls Try.prog 50 #[v] w' fun e w'' => e = .returned (.bool (thB H)) ∧ w'' = w') := fun w' b => pthree v H w' (V.next b) hh
  obtain ⟨ad, c, rfl, hx⟩ := U
  obtain ⟨bd, d, rfl, hy⟩ := V
  have HTL : Hid (thB L = true → L.length = 3) := fun h => (thB_iff.1 h).1
  have HTH : Hid (thB H = true → H.length = 3) := fun h => (thB_iff.1 h).1
  have HX := Hid.mk hx
  have HY := Hid.mk hy
  unfold gbB
  generalize thB L = t1 at HU0 HTL ⊢
  generalize thB H = t2 at HV0 HTH ⊢
  generalize L.length = n at HU0 HTL HX hx hl ⊢
  generalize H.length = m at HV0 HTH HY hy hh ⊢
  have HU : Hid (∀ w', Below w.heap.size w w' → Calls Try.prog 50 #[.slice ad n c] w' fun e w'' => e = .returned (.bool t1) ∧ w'' = w') := HU0
  have HV : Hid (∀ w', Below w.heap.size w w' → Calls Try.prog 50 #[.slice bd m d] w' fun e w'' => e = .returned (.bool t2) ∧ w'' = w') := HV0
  clear HU0 HV0 hx hy hl hh
  cases t1
  case false =>
    rw [Bool.false_and]
    go_enter Try.func14, Try.ntmps14
    go_wp2_with (first | (go_at_call 50; (with_reducible show Calls Try.prog 50 #[.slice ad n c] _ _); refine (HU.out _ alloc_b).mono ?_; rintro e w2 ⟨rfl, hw⟩; subst w2) | (go_at_call 50; (with_reducible show Calls Try.prog 50 #[.slice bd m d] _ _); refine (HV.out _ alloc_b).mono ?_; rintro e w3 ⟨rfl, hw⟩; subst w3))
    go_ret
    exact ⟨rfl, alloc_b⟩
  have n3 := HTL.out rfl
  subst n3
  cases t2
  case false =>
    rw [Bool.false_and, Bool.true_and]
    go_enter Try.func14, Try.ntmps14
    go_wp2_with (first | (go_at_call 50; (with_reducible show Calls Try.prog 50 #[.slice ad 3 c] _ _); refine (HU.out _ alloc_b).mono ?_; rintro e w2 ⟨rfl, hw⟩; subst w2) | (go_at_call 50; (with_reducible show Calls Try.prog 50 #[.slice bd m d] _ _); refine (HV.out _ alloc_b).mono ?_; rintro e w3 ⟨rfl, hw⟩; subst w3))
    go_ret
    exact ⟨rfl, alloc_b⟩
  have m3 := HTH.out rfl
  subst m3
  rw [Bool.true_and, Bool.true_and]
  clear HTL HTH
  have HB : Hid ((decide (L.getD 0 0 ≤ H.getD 0 0) && (decide (L.getD 1 0 ≤ H.getD 1 0) && decide (L.getD 2 0 ≤ H.getD 2 0))) = true ↔ ∀ i, i < 3 → L.getD i 0 ≤ H.getD i 0) := by
    show _ ↔ _
    rw [Bool.and_eq_true, Bool.and_eq_true, decide_eq_true_eq, decide_eq_true_eq, decide_eq_true_eq]
    constructor
    · intro ⟨a, b, c⟩ i hi
      have hc : i = 0 ∨ i = 1 ∨ i = 2 := by omega
      rcases hc with rfl | rfl | rfl
      · exact a
      · exact b
      · exact c
    · intro a
      exact ⟨a 0 (by omega), a 1 (by omega), a 2 (by omega)⟩
  generalize (decide (L.getD 0 0 ≤ H.getD 0 0) && (decide (L.getD 1 0 ≤ H.getD 1 0) && decide (L.getD 2 0 ≤ H.getD 2 0))) = rb at HB ⊢
  obtain ⟨W, hW⟩ : ∃ W, w.alloc (.cells #[.slice ad 3 c, .slice bd 3 d] 27) = W := ⟨_, rfl⟩
  have c1 : W.cell? ⟨w.heap.size, 1, none⟩ = some (.slice bd 3 d) := by rw [← hW]; simp
  have HX2 : Hid (∀ i, i < 3 → ∃ g o, ad = some ⟨g, o, none⟩ ∧ W.cell? ⟨g, o + i, none⟩ = some (.int .i64 (L.getD i 0))) := fun i hi => by obtain ⟨g, o, h1, h2⟩ := HX.out i hi; exact ⟨g, o, h1, by rw [← hW]; exact cell_nx h2 alloc_b⟩
  have HY2 : Hid (∀ i, i < 3 → ∃ g o, bd = some ⟨g, o, none⟩ ∧ W.cell? ⟨g, o + i, none⟩ = some (.int .i64 (H.getD i 0))) := fun i hi => by obtain ⟨g, o, h1, h2⟩ := HY.out i hi; exact ⟨g, o, h1, by rw [← hW]; exact cell_nx h2 alloc_b⟩
  have HBW : Hid (Below w.heap.size w W) := by rw [← hW]; exact alloc_b
  clear HX HY
  have HWE := Hid.mk hW
  clear hW
  go_enter Try.func14, Try.ntmps14
  go_wp2_with (first | (go_at_call 50; (with_reducible show Calls Try.prog 50 #[.slice ad _ c] _ _); refine (HU.out _ alloc_b).mono ?_; rintro e w2 ⟨rfl, hw⟩; subst w2) | (go_at_call 50; (with_reducible show Calls Try.prog 50 #[.slice bd _ d] _ _); refine (HV.out _ alloc_b).mono ?_; rintro e w3 ⟨rfl, hw⟩; subst w3))
  rw [HWE.out]
  clear HWE HU HV
  go_loopw [18] (fun i wr => ∃ k : Nat, k ≤ 3 ∧ i = .int .i64 k ∧ Hid (∀ i, i < k → L.getD i 0 ≤ H.getD i 0) ∧ wr = W) (fun i _ => 3 - (intOf i).toNat)
  case atStart => exact ⟨0, Nat.zero_le _, rfl, fun i hi => absurd hi (Nat.not_lt_zero _), rfl⟩
  case round =>
    obtain ⟨k, hk, rfl, HI, rfl⟩ := hrel
    by_cases hkn : k < 3
    · obtain ⟨g, o, rfl, hc⟩ := HX2.out k hkn
      obtain ⟨g', o', rfl, hd⟩ := HY2.out k hkn
      have i1 : (k : Int) < 3 := by omega
      have i0 : (0 : Int) ≤ (k : Int) := by omega
      have HBk : Hid (rb = true → L.getD k 0 ≤ H.getD k 0) := fun h => (HB.out.1 h) k hkn
      have HIk : Hid (L.getD k 0 ≤ H.getD k 0 → ∀ i, i < k + 1 → L.getD i 0 ≤ H.getD i 0) := fun a i hi => if e : i = k then e ▸ a else HI.out i (by omega)
      generalize L.getD k 0 = x at hc HBk HIk
      generalize H.getD k 0 = y at hd HBk HIk
      by_cases h1 : x ≤ y
      case neg =>
        obtain rfl : rb = false := by cases rb; rfl; exact absurd (HBk.out rfl) h1
        have h2 : y < x := by omega
        clear HB HBk HIk HI
        go_wp2
        go_ret
        exact ⟨rfl, HBW.out⟩
      have h2 : ¬ y < x := by omega
      have HN := Hid.mk (HIk.out h1)
      clear HBk HIk HI
      go_wp2
      go_roundw
      case rel => exact ⟨k + 1, by omega, by go_num, HN, by first | rfl | trivial⟩
      case measure => simp [intOf]; omega
    · obtain rfl : k = 3 := by omega
      obtain rfl : rb = true := HB.out.2 HI.out
      have i1 : ¬ ((3 : Nat) : Int) < 3 := by omega
      go_wp2
      go_ret
      exact ⟨rfl, HBW.out⟩
/-- A place tells whether there is one. -/
def IxB (z : Int) (b : Bool) : Prop := decide (0 ≤ z) = b
set_option maxRecDepth 100000 in
set_option maxHeartbeats 2000000 in
theorem goei (l : List Int) (v : Value) (p : Int → Bool) (w : World) (Q : ARow w v l) (hn : l.length ≤ 1048576)
    (hp : ∀ x, x ∈ l → ∀ w', Below w.heap.size w w' → Calls Try.prog 52 #[.int .i64 x] w' fun e w'' => e = .returned (.bool (p x)) ∧ Below w'.heap.size w' w'') : Calls Try.prog 79 #[v, .func (.func 52) #[] #[]] w fun e w' => (∃ z, e = .returned (.int .i64 z) ∧ IxB z (l.any p)) ∧ Below w.heap.size w w' := by
  obtain ⟨oa, oc, rfl, hoa⟩ := Q
  obtain ⟨B, hB⟩ : ∃ B, l.any p = B := ⟨_, rfl⟩
  have HT : Hid (∀ i, i < l.length → p (l.getD i 0) = true → B = true) := fun i hi h => by rw [← hB, List.any_eq_true]; exact ⟨_, by simp [List.getD, hi], h⟩
  have HF : Hid ((∀ i, i < l.length → p (l.getD i 0) = false) → B = false) := fun h => by
    rw [← hB, List.any_eq_false]
    intro x hx
    obtain ⟨i, hi, rfl⟩ := List.getElem_of_mem hx
    have := h i hi
    rw [show l.getD i 0 = l[i] by simp [List.getD, hi]] at this
    rw [this]
    exact Bool.false_ne_true
  rw [hB]
  have HOA := Hid.mk hoa
  have HP := Hid.mk hp
  have HIN : Hid (∀ k, k < l.length → l.getD k 0 ∈ l) := fun k hk => by simp [List.getD, hk]
  clear hB hoa hp
  obtain ⟨n, hn'⟩ : ∃ n, l.length = n := ⟨_, rfl⟩
  rw [hn'] at HOA HF HT hn HIN ⊢
  clear hn'
  go_enter Try.func79, Try.ntmps79
  go_wp2
  go_loopw [8] (fun i wr => ∃ k : Nat, k ≤ n ∧ i = .int .i64 k ∧ Hid (∀ i, i < k → p (l.getD i 0) = false) ∧ Below w.heap.size w wr) (fun i _ => n - (intOf i).toNat)
  case atStart => exact ⟨0, Nat.zero_le _, rfl, fun i hi => by omega, Below.refl _ _⟩
  case round =>
    obtain ⟨k, hk, rfl, HK, HB⟩ := hrel
    by_cases hkn : k < n
    · have i1 : (k : Int) < (n : Int) := by omega
      have i0 : (0 : Int) ≤ (k : Int) := by omega
      obtain ⟨g, o, rfl, hc0⟩ := HOA.out k hkn
      have hc := cell_nx hc0 HB
      have hp := HP.out (l.getD k 0) (HIN.out k hkn) wr HB
      have HN : Hid (p (l.getD k 0) = false → ∀ i, i < k + 1 → p (l.getD i 0) = false) := fun h i hi => by
        by_cases e : i = k
        · subst e; exact h
        · exact HK.out i (by omega)
      have HG := Hid.mk (HT.out k hkn)
      clear hc0
      generalize l.getD k 0 = x at hc HN HG hp
      cases hb : p x
      · rw [hb] at hp
        have HN2 := Hid.mk (HN.out hb)
        clear HN HG HK hb
        go_wp2_with (go_at_call 52; refine hp.mono ?_; rintro e w2 ⟨rfl, B2⟩)
        go_roundw
        case rel => exact ⟨k + 1, by omega, by go_num, HN2, HB.trans (B2.mono HB.size)⟩
        case measure => simp [intOf]; omega
      · rw [hb] at hp
        have HG2 := Hid.mk (HG.out hb)
        clear HN HG HK hb
        go_wp2_with (go_at_call 52; refine hp.mono ?_; rintro e w2 ⟨rfl, B2⟩)
        go_ret
        exact ⟨⟨_, rfl, by unfold IxB; rw [HG2.out]; exact decide_eq_true i0⟩, HB.trans (B2.mono HB.size)⟩
    · obtain rfl : n = k := by omega
      have i1 : ¬ (n : Int) < (n : Int) := by omega
      have HT2 := Hid.mk (HF.out HK.out)
      go_wp2
      go_ret
      exact ⟨⟨-1, rfl, by unfold IxB; rw [HT2.out]; rfl⟩, HB⟩
set_option maxRecDepth 100000 in
theorem goec (l : List Int) (v : Value) (p : Int → Bool) (w : World) (Q : ARow w v l) (hn : l.length ≤ 1048576)
    (hp : ∀ x, x ∈ l → ∀ w', Below w.heap.size w w' → Calls Try.prog 52 #[.int .i64 x] w' fun e w'' => e = .returned (.bool (p x)) ∧ Below w'.heap.size w' w'') : Calls Try.prog 53 #[v, .func (.func 52) #[] #[]] w fun e w' => e = .returned (.bool (l.any p)) ∧ Below w.heap.size w w' := by
  have h := goei l v  p w Q hn hp
  obtain ⟨oa, oc, rfl, _⟩ := Q
  generalize l.any p = B at h ⊢
  clear hp
  go_enter Try.func53, Try.ntmps53
  go_wp2_with (go_at_call 79; refine h.mono ?_; rintro e w2 ⟨⟨z, rfl, hz⟩, B2⟩; unfold IxB at hz)
  go_ret
  exact ⟨rfl, B2⟩
theorem goes1 (x : Int) (w : World) : Calls Try.prog 52 #[.int .i64 x] w fun e w' => e = .returned (.bool (!decide (x = 0))) ∧ w' = w := by
  by_cases h : x = 0
  · subst h
    go_enter Try.func52, Try.ntmps52
    go_wp2
    go_ret
    exact ⟨rfl, rfl⟩
  · have h2 : (x == 0) = false := by simp; exact h
    rw [decide_eq_false h]
    go_enter Try.func52, Try.ntmps52
    go_wp2
    go_ret
    first | exact ⟨rfl, rfl⟩ | (refine ⟨?_, rfl⟩; simp; omega)
theorem any3 (p : Int → Bool) (L : List Int) (h : L.length = 3) : L.any p = (p (L.getD 0 0) || (p (L.getD 1 0) || p (L.getD 2 0))) := by
  match L, h with
  | [a, b, c], _ => simp
set_option maxRecDepth 100000 in
set_option maxHeartbeats 8000000 in
theorem pgoodr (u v : Value) (L H : List Int) (w : World) (U : ARow w u L) (V : ARow w v H) (hl : L.length ≤ 9223372036854775807) (hh : H.length ≤ 9223372036854775807) : Calls Try.prog 19 #[.agg #[u, v]] w fun e w' => e = .returned (.bool (grB L H)) ∧ Below w.heap.size w w' := by
  have HU0 : Hid (∀ w', Below w.heap.size w w' → Calls Try.prog 50 #[u] w' fun e w'' => e = .returned (.bool (thB L)) ∧ w'' = w') := fun w' b => pthree u L w' (U.next b) hl
  have HV0 : Hid (∀ w', Below w.heap.size w w' → Calls Try.prog 50 #[v] w' fun e w'' => e = .returned (.bool (thB H)) ∧ w'' = w') := fun w' b => pthree v H w' (V.next b) hh
  have HG : Hid (H.length = 3 → ∀ w', Below w.heap.size w w' → Calls Try.prog 53 #[v, .func (.func 52) #[] #[]] w' fun e w'' => e = .returned (.bool (!decide (H.getD 0 0 = 0) || (!decide (H.getD 1 0 = 0) || !decide (H.getD 2 0 = 0)))) ∧ Below w'.heap.size w' w'') := fun h3 w' b => by rw [← any3 (fun x => !decide (x = 0)) H h3]; exact goec H v (fun x => !decide (x = 0)) w' (V.next b) (by omega) (fun x _ w2 _ => (goes1 x w2).mono fun e w3 ⟨h1, h2⟩ => ⟨h1, by rw [h2]; exact Below.refl _ _⟩)
  obtain ⟨ad, c, rfl, hx⟩ := U
  obtain ⟨bd, d, rfl, hy⟩ := V
  have HTL : Hid (thB L = true → L.length = 3) := fun h => (thB_iff.1 h).1
  have HTH : Hid (thB H = true → H.length = 3) := fun h => (thB_iff.1 h).1
  have HX := Hid.mk hx
  have HY := Hid.mk hy
  unfold grB
  generalize thB L = t1 at HU0 HTL ⊢
  generalize thB H = t2 at HV0 HTH ⊢
  generalize L.length = n at HU0 HTL HX hx hl ⊢
  generalize H.length = m at HV0 HTH HY hy hh HG ⊢
  have HU : Hid (∀ w', Below w.heap.size w w' → Calls Try.prog 50 #[.slice ad n c] w' fun e w'' => e = .returned (.bool t1) ∧ w'' = w') := HU0
  have HV : Hid (∀ w', Below w.heap.size w w' → Calls Try.prog 50 #[.slice bd m d] w' fun e w'' => e = .returned (.bool t2) ∧ w'' = w') := HV0
  clear HU0 HV0 hx hy hl hh
  cases t1
  case false =>
    rw [Bool.false_and]
    go_enter Try.func19, Try.ntmps19
    go_wp2_with (first | (go_at_call 50; (with_reducible show Calls Try.prog 50 #[.slice ad n c] _ _); refine (HU.out _ alloc_b).mono ?_; rintro e w2 ⟨rfl, hw⟩; subst w2) | (go_at_call 50; (with_reducible show Calls Try.prog 50 #[.slice bd m d] _ _); refine (HV.out _ alloc_b).mono ?_; rintro e w3 ⟨rfl, hw⟩; subst w3))
    go_ret
    exact ⟨rfl, alloc_b⟩
  have n3 := HTL.out rfl
  subst n3
  cases t2
  case false =>
    rw [Bool.false_and, Bool.true_and]
    go_enter Try.func19, Try.ntmps19
    go_wp2_with (first | (go_at_call 50; (with_reducible show Calls Try.prog 50 #[.slice ad 3 c] _ _); refine (HU.out _ alloc_b).mono ?_; rintro e w2 ⟨rfl, hw⟩; subst w2) | (go_at_call 50; (with_reducible show Calls Try.prog 50 #[.slice bd m d] _ _); refine (HV.out _ alloc_b).mono ?_; rintro e w3 ⟨rfl, hw⟩; subst w3))
    go_ret
    exact ⟨rfl, alloc_b⟩
  have m3 := HTH.out rfl
  subst m3
  rw [Bool.true_and, Bool.true_and]
  clear HTL HTH
  have HG2 := Hid.mk (HG.out rfl)
  clear HG HX HY
  generalize (!decide (H.getD 0 0 = 0) || (!decide (H.getD 1 0 = 0) || !decide (H.getD 2 0 = 0))) = gb at HG2 ⊢
  go_enter Try.func19, Try.ntmps19
  go_wp2_with (first | (go_at_call 50; (with_reducible show Calls Try.prog 50 #[.slice ad _ c] _ _); refine (HU.out _ alloc_b).mono ?_; rintro e w2 ⟨rfl, hw⟩; subst w2) | (go_at_call 50; (with_reducible show Calls Try.prog 50 #[.slice bd _ d] _ _); refine (HV.out _ alloc_b).mono ?_; rintro e w3 ⟨rfl, hw⟩; subst w3) | (go_at_call 53; refine (HG2.out _ alloc_b).mono ?_; rintro e w4 ⟨rfl, B4⟩))
  go_ret
  exact ⟨rfl, alloc_b.trans (B4.mono (by simp))⟩
end Go.Proofs.Ytngmaeinehfimaa
