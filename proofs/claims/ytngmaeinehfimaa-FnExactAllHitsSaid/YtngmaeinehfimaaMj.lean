/- All hits of a ray: the program. -/
import Derived.Test.YtngmaeinehfimaaMi
namespace Go.Proofs.Ytngmaeinehfimaa
open Go.ChangeShapes Go.WideShapes Go.ChangeAt Go.RowKit
set_option linter.unusedVariables false
set_option maxRecDepth 100000 in
set_option maxHeartbeats 8000000 in
theorem pallh (v x y : Value) (L : List TB) (F W : List Int) (w : World) (U : BRow w v L) (X : ARow w x F) (Y : ARow w y W) (hl : L.length ≤ 9223372036854775807) (hx : ∀ i, i < L.length → (tb L i).1.length ≤ 9223372036854775807 ∧ (tb L i).2.length ≤ 9223372036854775807) (hf : F.length ≤ 9223372036854775807) (hw : W.length ≤ 9223372036854775807) : Calls Try.prog 42 #[v, .agg #[x, y]] w fun e w' => ∃ r, e = .returned (.tuple #[r, .bool (absB L && grB F W)]) ∧ HV w.heap.size w' r (alH L F W) ∧ Below w.heap.size w w' := by
  have HB1 : Hid (∀ w', Below w.heap.size w w' → Calls Try.prog 60 #[v] w' fun e w'' => e = .returned (.bool (absB L)) ∧ Below w'.heap.size w' w'') := fun w' b => pblocks v L w' (U.next b) hl hx
  have HB2 : Hid (∀ w', Below w.heap.size w w' → Calls Try.prog 19 #[.agg #[x, y]] w' fun e w'' => e = .returned (.bool (grB F W)) ∧ Below w'.heap.size w' w'') := fun w' b => pgoodr x y F W w' (X.next b) (Y.next b) hf hw
  have HN : Hid ((absB L && grB F W) = false → alH L F W = []) := fun h => by unfold alH; rw [h]
  have HY : Hid (absB L = true → grB F W = true → alH L F W = hitsM (hP L F W) (hA L F W) (hD L F W) L.length) := fun h k => by unfold alH; rw [h, k]; rfl
  have HMB : Hid (absB L = true → grB F W = true → ∀ i, i < L.length → MB (hA L F W i) (hD L F W i)) := fun hb hr i hi => (hit_bnd hb hr hi).1
  have H24 : Hid (absB L = true → L.length ≤ 24) := fun hb => (abs_parts hb).1
  have U' := U
  have X' := X
  have Y' := Y
  obtain ⟨ad, c, rfl, hrow⟩ := U
  obtain ⟨fd, fc, rfl, -⟩ := X
  obtain ⟨gd, gc, rfl, -⟩ := Y
  have HE : Hid (absB L = true → grB F W = true → ∀ i, i < L.length → ∃ g o ua ul uc xa xl xc, ad = some ⟨g, o, none⟩ ∧ w.cell? ⟨g, o + i * 2, none⟩ = some (.slice ua ul uc) ∧ w.cell? ⟨g, o + i * 2 + 1, none⟩ = some (.slice xa xl xc) ∧ ∀ w' : World, Below w.heap.size w w' →
      Calls Try.prog 55 #[.agg #[.slice fd F.length fc, .slice gd W.length gc], .agg #[.slice ua ul uc, .slice xa xl xc]] w' fun e w'' => (hP L F W i = true → e = .returned (.tuple #[.agg #[.int .i64 (hA L F W i), .int .i64 (hD L F W i)], .bool true])) ∧ (hP L F W i = false → e = .returned (.tuple #[.agg #[.int .i64 0, .int .i64 0], .bool false])) ∧ Below w'.heap.size w' w'') := fun hb hr i hi => by
    obtain ⟨g, o, u, x, e1, e2, e3, e4, e5⟩ := hrow i hi
    have e4' := e4
    have e5' := e5
    obtain ⟨ua, uc, rfl, -⟩ := e4
    obtain ⟨xa, xc, rfl, -⟩ := e5
    exact ⟨g, o, _, _, _, _, _, _, e1, e2, e3, fun w' b => pmeetT hb hr hi _ _ _ _ w' (e4'.next b) (e5'.next b) (X'.next b) (Y'.next b)⟩
  clear hrow U' X' Y' hx hf hw
  generalize alH L F W = M at HN HY ⊢
  generalize hP L F W = P at HE HY HMB
  generalize hA L F W = A at HE HY HMB
  generalize hD L F W = D at HE HY HMB
  generalize L.length = n at HB1 HE HY HMB H24 hl ⊢
  generalize F.length = fl at HB2 HE ⊢
  generalize W.length = gl at HB2 HE ⊢
  obtain ⟨W0, hW0⟩ : ∃ W0, w.alloc (.cells #[.slice fd fl fc, .slice gd gl gc] 35) = W0 := ⟨_, rfl⟩
  have BW : Below w.heap.size w W0 := by rw [← hW0]; exact alloc_b
  have CR : C2 W0 w.heap.size (.slice fd fl fc) (.slice gd gl gc) := by rw [← hW0]; exact C2.new w _ _ _
  have C1 := HB1.out W0 BW
  clear HB1
  cases hb : absB L
  · rw [hb] at C1 HN
    have HN2 : Hid (M = []) := HN.out rfl
    clear HB2 HE HY HMB H24 HN hb CR
    go_enter Try.func42, Try.ntmps42
    go_wp2_with (go_at_call 60; refine C1.mono ?_; rintro e w2 ⟨rfl, B2⟩)
    exact bodyPost_ret (v := .tuple #[.slice none 0 0, .bool false]) (by simp [results, Try.results42, go_sem]) rfl ⟨_, rfl, by rw [HN2.out]; exact HV.nil _ _, BW.trans (B2.mono BW.size)⟩
  rw [hb] at C1 HN
  have h24 := H24.out hb
  have HE := Hid.mk (HE.out hb)
  have HY := Hid.mk (HY.out hb)
  have HMB := Hid.mk (HMB.out hb)
  cases hr : grB F W
  · rw [hr] at HB2 HN
    have HN2 : Hid (M = []) := HN.out rfl
    clear HE HY HMB H24 HN hb hr
    go_enter Try.func42, Try.ntmps42
    go_wp2_with (first
      | (go_at_call 60; refine C1.mono ?_; rintro e w2 ⟨rfl, B2⟩; (have BW2 := BW.trans (B2.mono BW.size)); (have CR2 := CR.next B2); (have r0 := CR2.c0); (have r1 := CR2.c1))
      | (go_at_call 19; refine (HB2.out _ BW2).mono ?_; rintro e w3 ⟨rfl, B3⟩))
    exact bodyPost_ret (v := .tuple #[.slice none 0 0, .bool false]) (by simp [results, Try.results42, go_sem]) rfl ⟨_, rfl, by rw [HN2.out]; exact HV.nil _ _, BW2.trans (B3.mono BW2.size)⟩
  rw [hr] at HB2
  have HE := Hid.mk (HE.out hr)
  have HY2 := Hid.mk (HY.out hr)
  have HMB := Hid.mk (HMB.out hr)
  clear HN HY H24 hb hr
  go_enter Try.func42, Try.ntmps42
  go_wp2_with (first
    | (go_at_call 60; refine C1.mono ?_; rintro e w2 ⟨rfl, B2⟩; (have BW2 := BW.trans (B2.mono BW.size)); (have CR2 := CR.next B2); (have r0 := CR2.c0); (have r1 := CR2.c1))
    | (go_at_call 19; refine (HB2.out _ BW2).mono ?_; rintro e W1 ⟨rfl, B3⟩; (have BW1 := BW2.trans (B3.mono BW2.size)); (have CR1 := CR2.next B3); clear r0 r1 B3))
  clear hW0 CR CR2 B2 BW2 BW HB2
  go_loopw [6, 21] (fun v i wr => ∃ k : Nat, k ≤ n ∧ i = .int .i64 k ∧ Hid (HR W1.heap.size wr v (hitsU P A D k)) ∧ Below W1.heap.size W1 wr) (fun _ i _ => n - (intOf i).toNat)
  case atStart => exact ⟨0, Nat.zero_le _, rfl, HR.nil _ _ (Nat.le_refl _), Below.refl _ _⟩
  case round =>
    obtain ⟨k, hk, rfl, HH, HBW⟩ := hrel
    by_cases hkn : k < n
    · have i1 : (k : Int) < (n : Int) := by omega
      have i0 : (0 : Int) ≤ (k : Int) := by omega
      obtain ⟨g, o, ua, ul, uc, xa, xl, xc, rfl, hc0, hc1, hC⟩ := HE.out k hkn
      have c0 := cell_nx hc0 (BW1.trans (HBW.mono BW1.size))
      have c1 := cell_nx hc1 (BW1.trans (HBW.mono BW1.size))
      obtain ⟨WA, hWA⟩ : ∃ WA, wr.alloc (.cells #[.slice ua ul uc, .slice xa xl xc] 27) = WA := ⟨_, rfl⟩
      have BA : Below wr.heap.size wr WA := by rw [← hWA]; exact alloc_b
      have BA0 : Below W1.heap.size W1 WA := HBW.trans (BA.mono HBW.size)
      have HC := Hid.mk (hC WA (BW1.trans (BA0.mono BW1.size)))
      have CA : C2 WA wr.heap.size (.slice ua ul uc) (.slice xa xl xc) := by rw [← hWA]; exact C2.new wr _ _ _
      have a0 := CA.c0
      have a1 := CA.c1
      have CRA := CR1.next BA0
      have r0 := CRA.c0
      have r1 := CRA.c1
      have HHA : Hid (HR W1.heap.size WA _ (hitsU P A D k)) := HH.out.next BA
      have HS : Hid (∀ b, P k = b → hitsU P A D (k + 1) = if b = true then hitsU P A D k ++ [((k : Int), A k, D k)] else hitsU P A D k) := fun b h => by rw [← h]; rfl
      have hlen : (hitsU P A D k).length ≤ 24 := by have := hitsU_len (P := P) (A := A) (D := D) k; omega
      clear hc0 hc1 hC HE HH HMB HY2
      generalize hM : hitsU P A D k = K at HHA HS hlen
      generalize htn : A k = tn at HC HS
      generalize htd : D k = td at HC HS
      cases hp : P k
      · rw [hp] at HC
        have HS3 : Hid (hitsU P A D (k + 1) = K) := HS.out false hp
        clear HS hp
        go_wp2_with (go_at_call 55; refine HC.out.mono ?_; rintro e w2 ⟨-, h2, B2⟩; (obtain rfl := h2 rfl))
        go_roundw
        case rel => exact ⟨k + 1, by omega, by go_num, by rw [HS3.out]; exact (HHA.out.next B2).next alloc_b, BA0.trans ((B2.trans ((alloc_b (o := _)).mono B2.size)).mono BA0.size)⟩
        case measure => simp [intOf]; omega
      · rw [hp] at HC
        have HS3 : Hid (hitsU P A D (k + 1) = K ++ [((k : Int), tn, td)]) := HS.out true hp
        obtain ⟨oa, oc, rfl⟩ := HHA.out.is
        clear HS hp
        go_wp2_with (first
          | (go_at_call 55; refine HC.out.mono ?_; rintro e w2 ⟨h1, -, B2⟩; (obtain rfl := h1 rfl); (obtain ⟨W3, hW3⟩ : ∃ W3, w2.alloc (.cells #[.int .i64 tn, .int .i64 td] 85) = W3 := ⟨_, rfl⟩); (have B3 : Below WA.heap.size WA W3 := by rw [← hW3]; exact B2.trans ((alloc_b).mono B2.size)); (have CT : C2 W3 w2.heap.size (.int .i64 tn) (.int .i64 td) := by rw [← hW3]; exact C2.new w2 _ _ _); (have t0 := CT.c0); (have t1 := CT.c1); (have R3 := Hid.mk (HHA.out.next B3)); (have BW3 := BA0.trans (B3.mono BA0.size)); clear a0 a1 r0 r1 CA CRA HHA B2 h1)
          | (go_at_call 74; refine (phitOf tn td k _).mono ?_; rintro e w4 ⟨rfl, B4⟩; (have R4 := Hid.mk (R3.out.next B4)); (have BW4 := BW3.trans (B4.mono BW3.size)); clear t0 t1 CT R3)
          | (at_builtin; refine wpList_append_hits rfl _ _ rfl rfl (M := [((k : Int), tn, td)]) rfl rfl (R4.out.next alloc_b) (src_c3 (C3.new w4 45 _ _ _)) (by simp; omega) ?_; (intro v5 w5 R5 G5); (have BW5 : Below W1.heap.size W1 w5 := below_grown (BW4.alloc BW4.size _) (Nat.le_trans BW4.size (by simp)) G5 (fun g hg => (R4.out.lt g hg).1)); (have R6 : Hid (HR W1.heap.size w5 v5 (hitsU P A D (k + 1))) := by rw [HS3.out]; exact R5)))
        go_roundw
        case rel => exact ⟨k + 1, by omega, by go_num, R6, BW5⟩
        case measure => simp [intOf]; omega
    · obtain rfl : n = k := by omega
      have i1 : ¬ (n : Int) < (n : Int) := by omega
      have HMB2 : Hid (∀ i, i < n → P i = true → MB (A i) (D i)) := fun i hi _ => HMB.out i hi
      have HBX := BW1.trans (HBW.mono BW1.size)
      have hlen : (hitsU P A D n).length ≤ 24 := by have := hitsU_len (P := P) (A := A) (D := D) n; omega
      rcases HH.out.form with ⟨h0, rfl⟩ | ⟨g, cap, rfl, -⟩
      · go_wp2_with (go_at_call 75; refine (psort0 _).mono ?_; rintro e w2 ⟨rfl, hw⟩; subst w2)
        have HM0 : Hid (M = []) := by
          rw [show Hid (M = []) = (M = []) from rfl, HY2.out]
          have h1 : ∀ x, x ∉ hitsM P A D n := fun x hx => by rw [hitsM_mem, h0] at hx; cases hx
          exact List.eq_nil_iff_forall_not_mem.2 h1
        exact bodyPost_ret (v := .tuple #[.slice none 0 0, .bool true]) (by simp [results, Try.results42, go_sem]) rfl ⟨_, rfl, by rw [HM0.out]; exact HV.nil _ _, HBX⟩
      · have HS := Hid.mk (psortH W1.heap.size g cap wr HH.out HMB2.out h24)
        have hg := HH.out.lt g rfl
        clear HE HMB HMB2 HH
        generalize (hitsU P A D n).length = u at HS hlen ⊢
        go_wp2_with (go_at_call 75; refine HS.out.mono ?_; rintro e w2 ⟨rfl, hlm, RW, B2⟩)
        exact bodyPost_ret (v := .tuple #[.slice (some ⟨g, 0, none⟩) u cap, .bool true]) (by simp [results, Try.results42, go_sem]) rfl ⟨_, rfl, ⟨by rw [HY2.out, hlm]; rw [hlm] at RW; exact Or.inr ⟨g, cap, rfl, RW⟩, fun g2 hg2 => by have e : g = g2 := Option.some.inj hg2; subst e; exact ⟨Nat.le_trans BW1.size hg.1, Nat.lt_of_lt_of_le hg.2 B2.size⟩⟩, HBX.trans (B2.mono (Nat.le_trans BW1.size hg.1))⟩
end Go.Proofs.Ytngmaeinehfimaa
