/- The model's LeastMisses. -/
import Derived.Test.YtfhpjcojccfcoaaMr
namespace Go.Proofs.Ytfhpjcojccfcoaa
open Go.ChangeShapes Go.WideShapes Go.ChangeAt Go.RowKit
set_option linter.unusedVariables false
/-- How far the one is that goes so far; -1 ahead of the first. -/
def farV (lines : List Int) (i : Nat) (S : List Int) (j : Nat) : Int := if j = 0 then -1 else ((i + 1 + wt lines i (S.getD (pk (fun j => wt lines i (S.getD j 0)) j) 0) : Nat) : Int)
def leastB (l : List Int) (y ln : Int) : Bool := accB l && ((decide (1 ≤ y) && decide (y ≤ 8)) && pwB ln 16 256)
def leastZ (l : List Int) (y ln : Int) : Int := if leastB l y ln = true then ((lm y.toNat (linesL l ln) l.length).2 : Int) else 0
theorem linesL_at (l : List Int) (ln : Int) (k : Nat) (hk : k < l.length) : (linesL l ln).getD k 0 = l.getD k 0 / ln := by unfold linesL; simp [List.getD, hk]
theorem wt_le (lines : List Int) (i : Nat) (x : Int) : wt lines i x ≤ lines.length - (i + 1) := by
  unfold wt
  have := List.idxOf_le_length (a := x) (l := lines.drop (i + 1))
  rwa [List.length_drop] at this
theorem wt_hit (lines : List Int) (i q : Nat) (x : Int) (hq : i + 1 + q < lines.length) (h : lines.getD (i + 1 + q) 0 = x) (hn : ∀ r, r < q → lines.getD (i + 1 + r) 0 ≠ x) : wt lines i x = q := by
  have hl : q < (lines.drop (i + 1)).length := by rw [List.length_drop]; omega
  have hg : ∀ r, r < (lines.drop (i + 1)).length → (lines.drop (i + 1)).getD r 0 = lines.getD (i + 1 + r) 0 := fun r hr => by simp [List.getD]
  have e2 : (lines.drop (i + 1))[q] = x := by rw [← h, ← hg q hl, List.getD_eq_getElem?_getD, List.getElem?_eq_getElem hl]; rfl
  have hm : x ∈ lines.drop (i + 1) := by rw [← e2]; exact List.getElem_mem hl
  obtain ⟨_, h2, h3⟩ := idx_hit hm
  unfold wt
  rcases Nat.lt_trichotomy ((lines.drop (i + 1)).idxOf x) q with e | e | e
  · rw [hg _ h2] at h3
    exact absurd h3 (hn _ e)
  · exact e
  · have := List.not_of_lt_findIdx (p := (· == x)) (xs := lines.drop (i + 1)) (i := q) e
    simp [e2] at this
theorem wt_miss (lines : List Int) (i : Nat) (x : Int) (hi : i < lines.length) (hn : ∀ r, i + 1 + r < lines.length → lines.getD (i + 1 + r) 0 ≠ x) : i + 1 + wt lines i x = lines.length := by
  have : x ∉ lines.drop (i + 1) := fun h => by
    obtain ⟨r, hr, e⟩ := List.getElem_of_mem h
    rw [List.length_drop] at hr
    have := hn r (by omega)
    rw [List.getElem_drop] at e
    exact this (by rw [← e]; have : i + 1 + r < lines.length := by omega
                   simp [List.getD, this])
  unfold wt
  rw [List.idxOf_eq_length this, List.length_drop]
  omega
set_option maxRecDepth 100000 in
set_option maxHeartbeats 2000000 in
theorem mleast (l : List Int) (v : Value) (yI ln0 : Int) (w : World) (Q : ARow w v l) : Calls Try.prog 39 #[v, .int .i64 yI, .int .i64 ln0] w fun e w' => e = .returned (.tuple #[.int .i64 (leastZ l yI ln0), .bool (leastB l yI ln0)]) ∧ Below w.heap.size w w' := by
  obtain ⟨i3, hi3, hz30, hz31, hz32⟩ := info_parts info3
  have h46 := mplaces l v w Q
  have h53 := mpower ln0 16 256 w (by decide) (by decide)
  obtain ⟨oa, oc, rfl, hoa⟩ := Q
  have HZ : Hid (leastZ l yI ln0 = if leastB l yI ln0 = true then ((lm yI.toNat (linesL l ln0) l.length).2 : Int) else 0) := rfl
  have HBB : Hid (leastB l yI ln0 = (accB l && ((decide (1 ≤ yI) && decide (yI ≤ 8)) && pwB ln0 16 256))) := rfl
  generalize leastZ l yI ln0 = Z at HZ ⊢
  generalize leastB l yI ln0 = BB at HZ HBB ⊢
  cases hA : accB l
  case false =>
    rw [hA] at h46
    have HBF : Hid (BB = false) := by show _ = _; rw [HBB.out, hA]; rfl
    have HZ0 : Hid (Z = 0) := by show _ = _; rw [HZ.out, HBF.out]; rfl
    clear hA hoa
    go_enter Try.func39, Try.ntmps39
    go_wp2_with (first | (go_at_call 46; refine h46.mono ?_; rintro e w2 ⟨rfl, hw⟩; subst w2))
    go_ret2
    exact ⟨by rw [HBF.out, HZ0.out]; rfl, Below.refl _ _⟩
  rw [hA] at h46
  by_cases b1 : 1 ≤ yI
  case neg =>
    have b2 : yI < 1 := by omega
    have HBF : Hid (BB = false) := by show _ = _; rw [HBB.out, decide_eq_false b1]; simp
    have HZ0 : Hid (Z = 0) := by show _ = _; rw [HZ.out, HBF.out]; rfl
    clear hA hoa b1
    go_enter Try.func39, Try.ntmps39
    go_wp2_with (first | (go_at_call 46; refine h46.mono ?_; rintro e w2 ⟨rfl, hw⟩; subst w2))
    go_ret2
    exact ⟨by rw [HBF.out, HZ0.out]; rfl, Below.refl _ _⟩
  have b2 : ¬ yI < 1 := by omega
  by_cases b3 : yI ≤ 8
  case neg =>
    have b4 : 8 < yI := by omega
    have HBF : Hid (BB = false) := by show _ = _; rw [HBB.out, decide_eq_false b3]; simp
    have HZ0 : Hid (Z = 0) := by show _ = _; rw [HZ.out, HBF.out]; rfl
    clear hA hoa b3
    go_enter Try.func39, Try.ntmps39
    go_wp2_with (first | (go_at_call 46; refine h46.mono ?_; rintro e w2 ⟨rfl, hw⟩; subst w2))
    go_ret2
    exact ⟨by rw [HBF.out, HZ0.out]; rfl, Below.refl _ _⟩
  have b4 : ¬ 8 < yI := by omega
  cases hL : pwB ln0 16 256
  case false =>
    rw [hL] at h53
    have HBF : Hid (BB = false) := by show _ = _; rw [HBB.out, hL]; simp
    have HZ0 : Hid (Z = 0) := by show _ = _; rw [HZ.out, HBF.out]; rfl
    clear hA hoa hL
    go_enter Try.func39, Try.ntmps39
    go_wp2_with (first | (go_at_call 46; refine h46.mono ?_; rintro e w2 ⟨rfl, hw⟩; subst w2) | (go_at_call 53; refine h53.mono ?_; rintro e w3 ⟨rfl, hw3⟩; subst w3))
    go_ret2
    exact ⟨by rw [HBF.out, HZ0.out]; rfl, Below.refl _ _⟩
  rw [hL] at h53
  have l16 := (pwB_iff hL).1
  have l256 := (pwB_iff hL).2
  obtain ⟨y, rfl⟩ : ∃ y : Nat, yI = (y : Int) := ⟨yI.toNat, by omega⟩
  have HBT : Hid (BB = true) := by show _ = _; rw [HBB.out, hA, decide_eq_true b1, decide_eq_true b3, hL]; rfl
  have HZ1 : Hid (Z = ((lm y (linesL l ln0) l.length).2 : Int)) := by show _ = _; rw [HZ.out, HBT.out, if_pos rfl]; rfl
  obtain ⟨hl200, hP⟩ := accB_at hA
  have HP := Hid.mk hP
  have HOA := Hid.mk hoa
  have HAT : Hid (∀ k, k < l.length → (linesL l ln0).getD k 0 = l.getD k 0 / ln0) := linesL_at l ln0
  have HLL : Hid ((linesL l ln0).length = l.length) := linesL_len l ln0
  have y1 : 1 ≤ y := by omega
  have y8 : y ≤ 8 := by omega
  have HOK : Hid (∀ k, (lm y (linesL l ln0) k).1.length ≤ y ∧ (lm y (linesL l ln0) k).1.Nodup ∧ (lm y (linesL l ln0) k).2 ≤ k) := lm_ok y (by omega) _
  generalize linesL l ln0 = lines at HZ1 HAT HLL HOK
  clear hoa hP hA hL HBB HZ b1 b3
  obtain ⟨n, hn⟩ : ∃ n, l.length = n := ⟨_, rfl⟩
  rw [hn] at HOA HP hl200 HZ1 HAT HLL h46 ⊢
  have l0 : ¬ ln0 = 0 := by omega
  clear hn
  go_enter Try.func39, Try.ntmps39
  go_wp2_with (first | (go_at_call 46; refine h46.mono ?_; rintro e w2 ⟨rfl, hw⟩; subst w2) | (go_at_call 53; refine h53.mono ?_; rintro e w3 ⟨rfl, hw3⟩; subst w3))
  clear h46 h53
  go_loopw [8, 9, 40] (fun u q ii wr => ∃ (i : Nat) (uu : Value), i ≤ n ∧ ii = .int .i64 i ∧ q = .int .i64 ((lm y lines i).2 : Int) ∧ uu = u ∧ Hid (Ri w.heap.size wr uu (lm y lines i).1) ∧ Hid (Below w.heap.size w wr)) (fun _ _ ii _ => n - (intOf ii).toNat)
  case atStart => exact ⟨0, _, Nat.zero_le _, rfl, rfl, rfl, Ri.nil _ _ (Nat.le_refl _), Below.refl _ _⟩
  case round =>
    obtain ⟨i, uu, hi, rfl, rfl, rfl, HU, HB⟩ := hrel
    by_cases hin : i < n
    case neg =>
      obtain rfl : n = i := by omega
      have j1 : ¬ (n : Int) < (n : Int) := by omega
      go_wp2
      go_ret2
      exact ⟨by rw [HBT.out, HZ1.out]; rfl, HB.out⟩
    have j1 : (i : Int) < (n : Int) := by omega
    have j0 : (0 : Int) ≤ (i : Int) := by omega
    obtain ⟨pg, po, rfl, hc0⟩ := HOA.out i hin
    have hc := cell_nx hc0 HB.out
    have hp := HP.out i hin
    have HCL : Hid (∀ t, t < n → wr.cell? ⟨pg, po + t, none⟩ = some (.int .i64 (l.getD t 0))) := fun t ht => by
      obtain ⟨g', o', e1, e2⟩ := HOA.out t ht
      injection e1 with e1
      injection e1 with e1 e3
      subst e1; subst e3
      exact cell_nx e2 HB.out
    have hat := HAT.out i hin
    obtain ⟨d1, d2, d3⟩ := div_line hp.1 hp.2 (show 1 ≤ ln0 by omega)
    have HLMS : Hid (∀ n0, lines.getD i 0 = n0 → (n0 ∈ (lm y lines i).1 → lm y lines (i + 1) = lm y lines i) ∧ (n0 ∉ (lm y lines i).1 → lm y lines (i + 1) = ((if (lm y lines i).1.length = y then cut (lm y lines i).1 (pk (fun j => wt lines i ((lm y lines i).1.getD j 0)) (lm y lines i).1.length) else (lm y lines i).1) ++ [n0], (lm y lines i).2 + 1))) := fun n0 e => by
      subst e
      constructor
      · intro h; rw [lm]; simp only [if_pos h]
      · intro h; rw [lm]; simp only [if_neg h]
    have hok := HOK.out i
    rw [← hat] at d1 d2 d3
    have HLM2 := Hid.mk (HLMS.out _ rfl)
    generalize lines.getD i 0 = nn at d1 d2 d3 HLM2
    generalize l.getD i 0 = pl at hc hp d1
    obtain ⟨S0, m0⟩ : ∃ S, (lm y lines i).1 = S := ⟨_, rfl⟩
    obtain ⟨mi, hmi⟩ : ∃ m, (lm y lines i).2 = m := ⟨_, rfl⟩
    rw [m0, hmi] at HLM2 hok
    rw [m0] at HU
    rw [hmi]
    have HE0 : Hid ((lm y lines i).1 = S0 ∧ (lm y lines i).2 = mi) := ⟨m0, hmi⟩
    obtain ⟨ad, cr, hu, hcr0, hga⟩ : ∃ ad cr, uu = Value.slice ad S0.length cr ∧ S0.length ≤ cr ∧ (0 < S0.length → ∃ g, ad = some ⟨g, 0, none⟩) := by
      rcases ri_cases HU.out with ⟨h1, h2⟩ | ⟨g, c, h1, h2, _, _⟩
      · exact ⟨none, 0, by rw [h2, h1]; rfl, by rw [h1]; exact Nat.le_refl _, fun h => by rw [h1] at h; exact absurd h (Nat.lt_irrefl _)⟩
      · exact ⟨_, c, h1, h2, fun _ => ⟨g, rfl⟩⟩
    subst hu
    have HQ0 := Hid.mk HU.out.arow
    have HGA := Hid.mk hga
    generalize S0 = lL at HU HQ0 HGA hcr0 hok HLM2 HE0 ⊢
    obtain ⟨hl8, hnd, hmi2⟩ := hok
    obtain ⟨ln, hln⟩ : ∃ ln, lL.length = ln := ⟨_, rfl⟩
    have HLN : Hid (lL.length = ln) := hln
    rw [hln] at HU HQ0 HGA hcr0 hl8 HLM2 ⊢
    have ln8 : ln ≤ 8 := by omega
    clear hln hnd hga m0 hmi hc0 hat HLMS hp
    have hd0 : Hid (decide (nn ∈ lL.take 0) = false) := by show _ = _; simp
    have HMT : Hid (∀ k, k < ln → ∀ x, x ∈ lL.take (k + 1) ↔ x ∈ lL.take k ∨ lL.getD k 0 = x) := fun k hk => mem_take_succ lL k (by rw [HLN.out]; exact hk)
    have HTA : Hid (lL.take ln = lL) := List.take_of_length_le (by rw [HLN.out]; exact Nat.le_refl _)
    have HCR : Hid (∀ j, j < ln → ∃ g, ad = some ⟨g, 0, none⟩ ∧ wr.cell? ⟨g, j, none⟩ = some (.int .i64 (lL.getD j 0))) := fun j hj => by
      obtain ⟨g, rfl⟩ := HGA.out (by omega)
      obtain ⟨oa', oc', hv, hcell⟩ := HQ0.out
      injection hv with hv1 hv2 hv3
      obtain ⟨g', o', e1, hc⟩ := hcell j (by rw [HLN.out]; exact hj)
      rw [← hv1] at e1
      injection e1 with e1
      injection e1 with e1 e2
      subst e1; subst e2
      exact ⟨g, rfl, by rw [Nat.zero_add] at hc; exact hc⟩
    go_wp2
    go_loop [13, 50] (fun h jj => ∃ j : Nat, j ≤ ln ∧ jj = .int .i64 j ∧ h = .bool (decide (nn ∈ lL.take j))) (fun _ jj => ln - (intOf jj).toNat)
    case atStart => exact ⟨0, Nat.zero_le _, rfl, by rw [hd0.out]⟩
    case round =>
      obtain ⟨j, hj, rfl, rfl⟩ := hrel
      by_cases hjl : j < ln
      · have i1 : (j : Int) < (ln : Int) := by omega
        have i0 : (0 : Int) ≤ (j : Int) := by omega
        obtain ⟨g, rfl, hcj⟩ := HCR.out j hjl
        have HM2 := Hid.mk (HMT.out j hjl nn)
        generalize lL.getD j 0 = x at hcj HM2
        by_cases hh : nn ∈ lL.take j
        · have HT : Hid (decide (nn ∈ lL.take (j + 1)) = true) := decide_eq_true (HM2.out.2 (Or.inl hh))
          rw [decide_eq_true hh]
          clear hh HM2
          go_wp2
          go_round
          case rel => exact ⟨j + 1, by omega, by go_num, by rw [HT.out]⟩
          case measure => simp [intOf]; omega
        · rw [decide_eq_false hh]
          have HT : Hid (decide (nn ∈ lL.take (j + 1)) = (x == nn)) := by
            show _ = _
            rw [Bool.eq_iff_iff, decide_eq_true_eq, HM2.out, beq_iff_eq]
            exact ⟨fun q => q.resolve_left hh, Or.inr⟩
          clear hh HM2
          go_wp2
          go_round
          case rel => exact ⟨j + 1, by omega, by go_num, by rw [HT.out]⟩
          case measure => simp [intOf]; omega
      obtain rfl : ln = j := by omega
      have i1 : ¬ (ln : Int) < (ln : Int) := by omega
      rw [HTA.out]
      by_cases hh : nn ∈ lL
      · rw [decide_eq_true hh]
        have HST := Hid.mk (HLM2.out.1 hh)
        clear hh
        go_wp2
        go_roundw
        case rel => exact ⟨i + 1, _, by omega, by go_num, by rw [HST.out, HE0.out.2], rfl, by show Ri _ _ _ _; rw [HST.out, HE0.out.1]; exact HU.out, HB⟩
        case measure => simp [intOf]; omega
      rw [decide_eq_false hh]
      have HS2 := Hid.mk (HLM2.out.2 hh)
      clear hh hd0 HMT HTA
      have HSM : Hid (((lm y lines (i + 1)).2 : Int) = (mi : Int) + 1) := by show _ = _; rw [HS2.out]; simp
      by_cases hfull : ln = y
      · have hfB : ((ln : Int) == (y : Int)) = true := by
          have h : (ln : Int) = (y : Int) := by omega
          exact beq_iff_eq.2 h
        have hl0 : 0 < ln := by omega
        obtain ⟨g, rfl⟩ := HGA.out hl0
        obtain ⟨kE, hkE⟩ : ∃ k, pk (fun j => wt lines i (lL.getD j 0)) ln = k := ⟨_, rfl⟩
        have hkl : kE < ln := by rw [← hkE]; exact pk_lt _ _ hl0
        have HST : Hid ((lm y lines (i + 1)).1 = cut lL kE ++ [nn]) := by show _ = _; rw [HS2.out]; simp only [if_pos hfull]; rw [hkE]
        have HKE := Hid.mk hkE
        have HNL : Hid (lines.length = n) := HLL.out
        have HF0 : Hid (farV lines i lL 0 = -1) := by show _ = _; unfold farV; rw [if_pos rfl]
        clear HS2 hfull hkE
        go_wp2
        go_loop [16, 17, 70] (fun kv fv jj => ∃ j : Nat, j ≤ ln ∧ jj = .int .i64 j ∧ kv = .int .i64 ((pk (fun j => wt lines i (lL.getD j 0)) j : Nat) : Int) ∧ fv = .int .i64 (farV lines i lL j)) (fun _ _ jj => ln - (intOf jj).toNat)
        case atStart => exact ⟨0, Nat.zero_le _, rfl, rfl, by rw [HF0.out]⟩
        case round =>
          obtain ⟨j, hj, rfl, rfl, rfl⟩ := hrel
          by_cases hjl : j < ln
          case neg =>
            obtain rfl : ln = j := by omega
            have i2 : ¬ (ln : Int) < (ln : Int) := by omega
            rw [HKE.out]
            generalize kE = k at hkl HST HKE ⊢
            have hk := hkl
            have k0 : (0 : Int) ≤ (k : Int) := by omega
            have z1 : (k : Int) + 1 ≤ (ln : Int) := by omega
            have z2 : (ln : Int) ≤ (cr : Int) := by omega
            have z3 : (k : Int) ≤ (cr : Int) := by omega
            have z4 : (k : Int) + 1 ≤ (cr : Int) := by omega
            have z5 : (0 : Int) ≤ (k : Int) + 1 := by omega
            clear HKE HF0
            go_wp2
            by_cases hcr : cr = k + 1
            · subst hcr
              generalize hWX : wr.drew = WX
              have BX : Below wr.heap.size wr WX := by rw [← hWX]; exact below_drew (Below.refl _ _)
              have HQ := Hid.mk (HQ0.out.next BX)
              refine wp_region_held_drew (S := fun _ => True) (by kernel_rfl) trivial (fun hH => ?_)
              rw [hWX]
              clear hWX
              refine wpAnyH_take (i := 1) (oi := { dst := some 101, op := Op.move (Operand.tmp 8), type := 23, pos := "l15_memory.go:235", after := #[], guard := none }) (v := .slice (some ⟨g, 0, none⟩) ln (k + 1)) rfl (by kernel_rfl) (by kernel_rfl) (by kernel_rfl) (fun _ _ _ h => h) (Or.inl ⟨by rfl, fun w0 hSw => by (go_simp)⟩) hH ?_
              simp only [Act.put, List.setIfInBounds_toArray, List.set_cons_zero, List.set_cons_succ]
              refine wpAnyH_take (i := 2) (oi := { dst := some 102, op := Op.move (Operand.tmp 16), type := 3, pos := "l15_memory.go:235", after := #[], guard := none }) (v := .int .i64 ((k : Nat) : Int)) rfl (by kernel_rfl) (by kernel_rfl) (by kernel_rfl) (fun _ _ _ h => h) (Or.inl ⟨by rfl, fun w0 hSw => by (go_simp)⟩) hH ?_
              simp only [Act.put, List.setIfInBounds_toArray, List.set_cons_zero, List.set_cons_succ]
              refine wpAnyH_take (i := 3) (oi := { dst := some 103, op := Op.slice 23 (Operand.tmp 101) none (some (Operand.tmp 102)) none, type := 23, pos := "l15_memory.go:235", after := #[{ on := 1, ground := Ground.data }, { on := 2, ground := Ground.data }], guard := none }) (v := .slice (some ⟨g, 0, none⟩) k (k + 1)) rfl (by kernel_rfl) (by kernel_rfl) (by kernel_rfl) (fun _ _ _ h => h) (Or.inl ⟨by rfl, fun w0 hSw => by (go_simp <;> first | (intro h; exfalso; omega) | exact (IntKind.wrap_i64 _).trans (by omega) | omega)⟩) hH ?_
              simp only [Act.put, List.setIfInBounds_toArray, List.set_cons_zero, List.set_cons_succ]
              refine wpAnyH_take (i := 5) (oi := { dst := some 105, op := Op.move (Operand.tmp 8), type := 23, pos := "l15_memory.go:235", after := #[], guard := none }) (v := .slice (some ⟨g, 0, none⟩) ln (k + 1)) rfl (by kernel_rfl) (by kernel_rfl) (by kernel_rfl) (fun _ _ _ h => h) (Or.inl ⟨by rfl, fun w0 hSw => by (go_simp)⟩) hH ?_
              simp only [Act.put, List.setIfInBounds_toArray, List.set_cons_zero, List.set_cons_succ]
              refine wpAnyH_take (i := 6) (oi := { dst := some 106, op := Op.move (Operand.tmp 16), type := 3, pos := "l15_memory.go:235", after := #[], guard := none }) (v := .int .i64 ((k : Nat) : Int)) rfl (by kernel_rfl) (by kernel_rfl) (by kernel_rfl) (fun _ _ _ h => h) (Or.inl ⟨by rfl, fun w0 hSw => by (go_simp)⟩) hH ?_
              simp only [Act.put, List.setIfInBounds_toArray, List.set_cons_zero, List.set_cons_succ]
              refine wpAnyH_take (i := 7) (oi := { dst := some 107, op := Op.binOp BinOp.add 3 (Operand.tmp 106) (Operand.const (Value.int IntKind.i64 1)) 3, type := 3, pos := "l15_memory.go:235", after := #[{ on := 6, ground := Ground.data }], guard := none }) (v := .int .i64 (((k : Nat) : Int) + 1)) rfl (by kernel_rfl) (by kernel_rfl) (by kernel_rfl) (fun _ _ _ h => h) (Or.inl ⟨by rfl, fun w0 hSw => by (go_simp <;> first | (intro h; exfalso; omega) | exact (IntKind.wrap_i64 _).trans (by omega) | omega)⟩) hH ?_
              simp only [Act.put, List.setIfInBounds_toArray, List.set_cons_zero, List.set_cons_succ]
              refine wpAnyH_take (i := 8) (oi := { dst := some 108, op := Op.slice 23 (Operand.tmp 105) (some (Operand.tmp 107)) none none, type := 23, pos := "l15_memory.go:235", after := #[{ on := 5, ground := Ground.data }, { on := 7, ground := Ground.data }], guard := none }) (v := .slice (some ⟨g, 0, none⟩) 0 0) rfl (by kernel_rfl) (by kernel_rfl) (by kernel_rfl) (fun _ _ _ h => h) (Or.inl ⟨by rfl, fun w0 hSw => by (go_simp <;> first | (intro h; exfalso; omega) | exact (IntKind.wrap_i64 _).trans (by omega) | omega)⟩) hH ?_
              simp only [Act.put, List.setIfInBounds_toArray, List.set_cons_zero, List.set_cons_succ]
              refine wpAnyH_ready (rs := [0]) (by kernel_rfl) (by simp) ?_
              refine (AllReadyH.cons (o := { dst := some 100, op := Op.buildSlice 23 0 #[], type := 23, pos := "l15_memory.go:235", after := #[], guard := none }) rfl (fun K hK => ?_) AllReadyH.nil)
              refine step_val (.slice (some ⟨WX.heap.size, 0, none⟩) 0 0) (WX.alloc (.cells #[] 3)) (by rfl) (by go_simp) ?_
              simp only [Act.put, List.setIfInBounds_toArray, List.set_cons_zero, List.set_cons_succ]
              refine hK.out _ _ trivial (fun hH' => ?_)
              clear hK K
              replace hH := hH'
              clear hH'
              have R1 := Ri.empty WX.heap.size WX (Nat.le_refl _)
              have Q1 := HQ.out.next (alloc_b (o := .cells #[] 3))
              have B1 : Below WX.heap.size WX (WX.alloc (.cells #[] 3)) := alloc_b
              refine wpAnyH_ready (rs := [4]) (by kernel_rfl) (by simp) ?_
              refine (AllReadyH.cons (o := { dst := some 104, op := Op.call { callee := Callee.builtin Builtin.append, args := #[Operand.tmp 100, Operand.tmp 103], argTypes := #[23, 23] }, type := 23, pos := "l15_memory.go:235", after := #[{ on := 0, ground := Ground.data }, { on := 3, ground := Ground.data }], guard := none }) rfl (fun K hK => ?_) AllReadyH.nil)
              obtain ⟨v2, w2, hr2, R2, G2, _⟩ := run_append_ri (P := Try.prog) 23 Try.underlying23 hi3 hz30 hz31 hz32 R1 (Q1.take k (Nat.le_of_lt hk) (k + 1)) (by have h9 := HLN.out; first | (simp; done) | (simp; omega))
              refine step_app (.tmp 100) (.tmp 103) 23 _ _ v2 w2 (by rfl) (by rfl) (by rfl) (by rfl) hr2 ?_
              simp only [Act.put, List.setIfInBounds_toArray, List.set_cons_zero, List.set_cons_succ]
              refine hK.out _ _ trivial (fun hH' => ?_)
              clear hK K
              replace hH := hH'
              clear hH'
              have B2 : Below WX.heap.size WX w2 := B1.grown G2 B1.size (fun g hg => (R1.lt g hg).1)
              have Q2 := ARow.none w2 (some ⟨g, 0, none⟩) 0 (L := lL.drop (k + 1)) (List.drop_eq_nil_of_le (by have := HLN.out; omega))
              clear hr2 G2 R1 Q1 B1
              refine wpAnyH_ready (rs := [9]) (by kernel_rfl) (by simp) ?_
              refine (AllReadyH.cons (o := { dst := some 109, op := Op.call { callee := Callee.builtin Builtin.append, args := #[Operand.tmp 104, Operand.tmp 108], argTypes := #[23, 23] }, type := 23, pos := "l15_memory.go:235", after := #[{ on := 4, ground := Ground.data }, { on := 8, ground := Ground.data }, { on := 4, ground := Ground.chain }], guard := none }) rfl (fun K hK => ?_) AllReadyH.nil)
              obtain ⟨v3, w3, hr3, R3, G3, _⟩ := run_append_ri (P := Try.prog) 23 Try.underlying23 hi3 hz30 hz31 hz32 R2 Q2 (by have h9 := HLN.out; first | (simp; done) | (simp; omega))
              refine step_app (.tmp 104) (.tmp 108) 23 _ _ v3 w3 (by rfl) (by rfl) (by rfl) (by rfl) hr3 ?_
              simp only [Act.put, List.setIfInBounds_toArray, List.set_cons_zero, List.set_cons_succ]
              refine hK.out _ _ trivial (fun hH' => ?_)
              clear hK K
              replace hH := hH'
              clear hH'
              have B3 : Below WX.heap.size WX w3 := B2.grown G3 B2.size (fun g hg => (R2.lt g hg).1)
              have R3c : Ri WX.heap.size w3 v3 (cut lL k) := by have h := R3; rw [List.nil_append] at h; exact h
              clear hr3 G3 R2 Q2 B2 R3
              refine wpAnyH_take (i := 10) (oi := { dst := some 8, op := Op.assign (Operand.tmp 109), type := 23, pos := "l15_memory.go:235", after := #[{ on := 9, ground := Ground.data }, { on := 9, ground := Ground.chain }, { on := 0, ground := Ground.phase }, { on := 1, ground := Ground.phase }, { on := 2, ground := Ground.phase }, { on := 3, ground := Ground.phase }, { on := 4, ground := Ground.phase }, { on := 5, ground := Ground.phase }, { on := 6, ground := Ground.phase }, { on := 7, ground := Ground.phase }, { on := 8, ground := Ground.phase }, { on := 9, ground := Ground.phase }], guard := none }) (v := v3) rfl (by kernel_rfl) (by kernel_rfl) (by kernel_rfl) (fun _ _ _ h => h) (Or.inl ⟨by rfl, fun w0 hSw => by (go_simp)⟩) hH ?_
              simp only [Act.put, List.setIfInBounds_toArray, List.set_cons_zero, List.set_cons_succ]
              refine wpAnyH_done (by kernel_rfl) ?_ _
              have B03 : Below w.heap.size w w3 := HB.out.trans ((BX.trans (B3.mono BX.size)).mono HB.out.size)
              have RU : Ri w.heap.size w3 v3 (cut lL k) := R3c.up (Nat.le_trans HB.out.size BX.size)
              have HLC : Hid ((cut lL k).length = ln - 1) := by have h := cut_len lL k (by have := HLN.out; omega); have := HLN.out; show _ = _; omega
              clear hH B3 R3c
              go_wp2_with (at_builtin; refine wpList_append_ri _ _ Try.underlying23 hi3 hz30 hz31 hz32 rfl rfl rfl rfl (RU.alloc (.cells #[.int .i64 nn] 3)) (ARow.one w3 nn) (by have h1 := HLC.out; simp only [List.length_cons, List.length_nil, h1]; omega) ?_)
              intro v5 w5 R5 G5 A5
              have B5 : Hid (Below w.heap.size w w5) := (B03.alloc B03.size _).grown G5 (Nat.le_trans B03.size (alloc_b (v := w3) (o := .cells #[.int .i64 nn] 3)).size) (fun g hg => (RU.lt g hg).1)
              have R5h : Hid (Ri w.heap.size w5 v5 (lm y lines (i + 1)).1) := by show Ri _ _ _ _; rw [HST.out]; exact R5
              clear R5 G5 A5 RU B03
              go_wp2
              go_roundw
              case rel => exact ⟨i + 1, _, by omega, by go_num, by rw [HSM.out], rfl, R5h, B5⟩
              case measure => simp [intOf]; omega
            · generalize hWX : wr.drew = WX
              have BX : Below wr.heap.size wr WX := by rw [← hWX]; exact below_drew (Below.refl _ _)
              have HQ := Hid.mk (HQ0.out.next BX)
              refine wp_region_held_drew (S := fun _ => True) (by kernel_rfl) trivial (fun hH => ?_)
              rw [hWX]
              clear hWX
              refine wpAnyH_take (i := 1) (oi := { dst := some 101, op := Op.move (Operand.tmp 8), type := 23, pos := "l15_memory.go:235", after := #[], guard := none }) (v := .slice (some ⟨g, 0, none⟩) ln cr) rfl (by kernel_rfl) (by kernel_rfl) (by kernel_rfl) (fun _ _ _ h => h) (Or.inl ⟨by rfl, fun w0 hSw => by (go_simp)⟩) hH ?_
              simp only [Act.put, List.setIfInBounds_toArray, List.set_cons_zero, List.set_cons_succ]
              refine wpAnyH_take (i := 2) (oi := { dst := some 102, op := Op.move (Operand.tmp 16), type := 3, pos := "l15_memory.go:235", after := #[], guard := none }) (v := .int .i64 ((k : Nat) : Int)) rfl (by kernel_rfl) (by kernel_rfl) (by kernel_rfl) (fun _ _ _ h => h) (Or.inl ⟨by rfl, fun w0 hSw => by (go_simp)⟩) hH ?_
              simp only [Act.put, List.setIfInBounds_toArray, List.set_cons_zero, List.set_cons_succ]
              refine wpAnyH_take (i := 3) (oi := { dst := some 103, op := Op.slice 23 (Operand.tmp 101) none (some (Operand.tmp 102)) none, type := 23, pos := "l15_memory.go:235", after := #[{ on := 1, ground := Ground.data }, { on := 2, ground := Ground.data }], guard := none }) (v := .slice (some ⟨g, 0, none⟩) k cr) rfl (by kernel_rfl) (by kernel_rfl) (by kernel_rfl) (fun _ _ _ h => h) (Or.inl ⟨by rfl, fun w0 hSw => by (go_simp <;> first | (intro h; exfalso; omega) | exact (IntKind.wrap_i64 _).trans (by omega) | omega)⟩) hH ?_
              simp only [Act.put, List.setIfInBounds_toArray, List.set_cons_zero, List.set_cons_succ]
              refine wpAnyH_take (i := 5) (oi := { dst := some 105, op := Op.move (Operand.tmp 8), type := 23, pos := "l15_memory.go:235", after := #[], guard := none }) (v := .slice (some ⟨g, 0, none⟩) ln cr) rfl (by kernel_rfl) (by kernel_rfl) (by kernel_rfl) (fun _ _ _ h => h) (Or.inl ⟨by rfl, fun w0 hSw => by (go_simp)⟩) hH ?_
              simp only [Act.put, List.setIfInBounds_toArray, List.set_cons_zero, List.set_cons_succ]
              refine wpAnyH_take (i := 6) (oi := { dst := some 106, op := Op.move (Operand.tmp 16), type := 3, pos := "l15_memory.go:235", after := #[], guard := none }) (v := .int .i64 ((k : Nat) : Int)) rfl (by kernel_rfl) (by kernel_rfl) (by kernel_rfl) (fun _ _ _ h => h) (Or.inl ⟨by rfl, fun w0 hSw => by (go_simp)⟩) hH ?_
              simp only [Act.put, List.setIfInBounds_toArray, List.set_cons_zero, List.set_cons_succ]
              refine wpAnyH_take (i := 7) (oi := { dst := some 107, op := Op.binOp BinOp.add 3 (Operand.tmp 106) (Operand.const (Value.int IntKind.i64 1)) 3, type := 3, pos := "l15_memory.go:235", after := #[{ on := 6, ground := Ground.data }], guard := none }) (v := .int .i64 (((k : Nat) : Int) + 1)) rfl (by kernel_rfl) (by kernel_rfl) (by kernel_rfl) (fun _ _ _ h => h) (Or.inl ⟨by rfl, fun w0 hSw => by (go_simp <;> first | (intro h; exfalso; omega) | exact (IntKind.wrap_i64 _).trans (by omega) | omega)⟩) hH ?_
              simp only [Act.put, List.setIfInBounds_toArray, List.set_cons_zero, List.set_cons_succ]
              refine wpAnyH_take (i := 8) (oi := { dst := some 108, op := Op.slice 23 (Operand.tmp 105) (some (Operand.tmp 107)) none none, type := 23, pos := "l15_memory.go:235", after := #[{ on := 5, ground := Ground.data }, { on := 7, ground := Ground.data }], guard := none }) (v := .slice (some ⟨g, k + 1, none⟩) (ln - (k + 1)) (cr - (k + 1))) rfl (by kernel_rfl) (by kernel_rfl) (by kernel_rfl) (fun _ _ _ h => h) (Or.inl ⟨by rfl, fun w0 hSw => by (go_simp <;> first | (intro h; exfalso; omega) | exact (IntKind.wrap_i64 _).trans (by omega) | omega)⟩) hH ?_
              simp only [Act.put, List.setIfInBounds_toArray, List.set_cons_zero, List.set_cons_succ]
              refine wpAnyH_ready (rs := [0]) (by kernel_rfl) (by simp) ?_
              refine (AllReadyH.cons (o := { dst := some 100, op := Op.buildSlice 23 0 #[], type := 23, pos := "l15_memory.go:235", after := #[], guard := none }) rfl (fun K hK => ?_) AllReadyH.nil)
              refine step_val (.slice (some ⟨WX.heap.size, 0, none⟩) 0 0) (WX.alloc (.cells #[] 3)) (by rfl) (by go_simp) ?_
              simp only [Act.put, List.setIfInBounds_toArray, List.set_cons_zero, List.set_cons_succ]
              refine hK.out _ _ trivial (fun hH' => ?_)
              clear hK K
              replace hH := hH'
              clear hH'
              have R1 := Ri.empty WX.heap.size WX (Nat.le_refl _)
              have Q1 := HQ.out.next (alloc_b (o := .cells #[] 3))
              have B1 : Below WX.heap.size WX (WX.alloc (.cells #[] 3)) := alloc_b
              refine wpAnyH_ready (rs := [4]) (by kernel_rfl) (by simp) ?_
              refine (AllReadyH.cons (o := { dst := some 104, op := Op.call { callee := Callee.builtin Builtin.append, args := #[Operand.tmp 100, Operand.tmp 103], argTypes := #[23, 23] }, type := 23, pos := "l15_memory.go:235", after := #[{ on := 0, ground := Ground.data }, { on := 3, ground := Ground.data }], guard := none }) rfl (fun K hK => ?_) AllReadyH.nil)
              obtain ⟨v2, w2, hr2, R2, G2, _⟩ := run_append_ri (P := Try.prog) 23 Try.underlying23 hi3 hz30 hz31 hz32 R1 (Q1.take k (Nat.le_of_lt hk) cr) (by have h9 := HLN.out; first | (simp; done) | (simp; omega))
              refine step_app (.tmp 100) (.tmp 103) 23 _ _ v2 w2 (by rfl) (by rfl) (by rfl) (by rfl) hr2 ?_
              simp only [Act.put, List.setIfInBounds_toArray, List.set_cons_zero, List.set_cons_succ]
              refine hK.out _ _ trivial (fun hH' => ?_)
              clear hK K
              replace hH := hH'
              clear hH'
              have B2 : Below WX.heap.size WX w2 := B1.grown G2 B1.size (fun g hg => (R1.lt g hg).1)
              have Q2 := (show ARow w2 (.slice (some ⟨g, k + 1, none⟩) (ln - (k + 1)) (cr - (k + 1))) (lL.drop (k + 1)) by have h := (HQ.out.next B2).drop (k + 1) (cr - (k + 1)); rwa [Nat.zero_add] at h)
              clear hr2 G2 R1 Q1 B1
              refine wpAnyH_ready (rs := [9]) (by kernel_rfl) (by simp) ?_
              refine (AllReadyH.cons (o := { dst := some 109, op := Op.call { callee := Callee.builtin Builtin.append, args := #[Operand.tmp 104, Operand.tmp 108], argTypes := #[23, 23] }, type := 23, pos := "l15_memory.go:235", after := #[{ on := 4, ground := Ground.data }, { on := 8, ground := Ground.data }, { on := 4, ground := Ground.chain }], guard := none }) rfl (fun K hK => ?_) AllReadyH.nil)
              obtain ⟨v3, w3, hr3, R3, G3, _⟩ := run_append_ri (P := Try.prog) 23 Try.underlying23 hi3 hz30 hz31 hz32 R2 Q2 (by have h9 := HLN.out; first | (simp; done) | (simp; omega))
              refine step_app (.tmp 104) (.tmp 108) 23 _ _ v3 w3 (by rfl) (by rfl) (by rfl) (by rfl) hr3 ?_
              simp only [Act.put, List.setIfInBounds_toArray, List.set_cons_zero, List.set_cons_succ]
              refine hK.out _ _ trivial (fun hH' => ?_)
              clear hK K
              replace hH := hH'
              clear hH'
              have B3 : Below WX.heap.size WX w3 := B2.grown G3 B2.size (fun g hg => (R2.lt g hg).1)
              have R3c : Ri WX.heap.size w3 v3 (cut lL k) := by have h := R3; rw [List.nil_append] at h; exact h
              clear hr3 G3 R2 Q2 B2 R3
              refine wpAnyH_take (i := 10) (oi := { dst := some 8, op := Op.assign (Operand.tmp 109), type := 23, pos := "l15_memory.go:235", after := #[{ on := 9, ground := Ground.data }, { on := 9, ground := Ground.chain }, { on := 0, ground := Ground.phase }, { on := 1, ground := Ground.phase }, { on := 2, ground := Ground.phase }, { on := 3, ground := Ground.phase }, { on := 4, ground := Ground.phase }, { on := 5, ground := Ground.phase }, { on := 6, ground := Ground.phase }, { on := 7, ground := Ground.phase }, { on := 8, ground := Ground.phase }, { on := 9, ground := Ground.phase }], guard := none }) (v := v3) rfl (by kernel_rfl) (by kernel_rfl) (by kernel_rfl) (fun _ _ _ h => h) (Or.inl ⟨by rfl, fun w0 hSw => by (go_simp)⟩) hH ?_
              simp only [Act.put, List.setIfInBounds_toArray, List.set_cons_zero, List.set_cons_succ]
              refine wpAnyH_done (by kernel_rfl) ?_ _
              have B03 : Below w.heap.size w w3 := HB.out.trans ((BX.trans (B3.mono BX.size)).mono HB.out.size)
              have RU : Ri w.heap.size w3 v3 (cut lL k) := R3c.up (Nat.le_trans HB.out.size BX.size)
              have HLC : Hid ((cut lL k).length = ln - 1) := by have h := cut_len lL k (by have := HLN.out; omega); have := HLN.out; show _ = _; omega
              clear hH B3 R3c
              go_wp2_with (at_builtin; refine wpList_append_ri _ _ Try.underlying23 hi3 hz30 hz31 hz32 rfl rfl rfl rfl (RU.alloc (.cells #[.int .i64 nn] 3)) (ARow.one w3 nn) (by have h1 := HLC.out; simp only [List.length_cons, List.length_nil, h1]; omega) ?_)
              intro v5 w5 R5 G5 A5
              have B5 : Hid (Below w.heap.size w w5) := (B03.alloc B03.size _).grown G5 (Nat.le_trans B03.size (alloc_b (v := w3) (o := .cells #[.int .i64 nn] 3)).size) (fun g hg => (RU.lt g hg).1)
              have R5h : Hid (Ri w.heap.size w5 v5 (lm y lines (i + 1)).1) := by show Ri _ _ _ _; rw [HST.out]; exact R5
              clear R5 G5 A5 RU B03
              go_wp2
              go_roundw
              case rel => exact ⟨i + 1, _, by omega, by go_num, by rw [HSM.out], rfl, R5h, B5⟩
              case measure => simp [intOf]; omega
          have i2 : (j : Int) < (ln : Int) := by omega
          have i0 : (0 : Int) ≤ (j : Int) := by omega
          obtain ⟨g2, hg2, hcj⟩ := HCR.out j hjl
          injection hg2 with hg2
          injection hg2 with hg2
          subst hg2
          have HXJ0 : Hid (∀ x, lL.getD j 0 = x → wt lines i (lL.getD j 0) = wt lines i x) := fun x e => by rw [e]
          have HPN1 : Hid (∀ x, lL.getD j 0 = x → farV lines i lL j < ((i + 1 + wt lines i x : Nat) : Int) → pk (fun j => wt lines i (lL.getD j 0)) (j + 1) = j) := fun x e h => by
            subst e
            rw [pk]
            by_cases j0 : j = 0
            · subst j0; split <;> rfl
            · unfold farV at h
              rw [if_neg j0] at h
              rw [if_pos (by show wt _ _ _ < wt _ _ _; omega)]
          have HPN2 : Hid (∀ x, lL.getD j 0 = x → ¬ farV lines i lL j < ((i + 1 + wt lines i x : Nat) : Int) → pk (fun j => wt lines i (lL.getD j 0)) (j + 1) = pk (fun j => wt lines i (lL.getD j 0)) j ∧ 0 < j) := fun x e h => by
            subst e
            by_cases j0 : j = 0
            · subst j0
              unfold farV at h
              rw [if_pos rfl] at h
              omega
            · unfold farV at h
              rw [if_neg j0] at h
              exact ⟨by rw [pk, if_neg (by show ¬ wt _ _ _ < wt _ _ _; omega)], by omega⟩
          obtain ⟨x, hx⟩ : ∃ x, lL.getD j 0 = x := ⟨_, rfl⟩
          have HPN1 := Hid.mk (HPN1.out x hx)
          have HPN2 := Hid.mk (HPN2.out x hx)
          have HXJ : Hid (lL.getD j 0 = x) := hx
          rw [hx] at hcj
          obtain ⟨far, hfar⟩ : ∃ far, farV lines i lL j = far := ⟨_, rfl⟩
          have HFV : Hid (farV lines i lL j = far) := hfar
          rw [hfar] at HPN1 HPN2 ⊢
          obtain ⟨kkv, hkkv⟩ : ∃ kkv : Int, ((pk (fun j => wt lines i (lL.getD j 0)) j : Nat) : Int) = kkv := ⟨_, rfl⟩
          have HKV : Hid (((pk (fun j => wt lines i (lL.getD j 0)) j : Nat) : Int) = kkv) := hkkv
          rw [hkkv]
          clear hx hfar hkkv HXJ0
          go_wp2
          go_loop [20, 21] (fun nv tt => ∃ t : Nat, i + 1 ≤ t ∧ t ≤ n ∧ tt = .int .i64 (t : Int) ∧ nv = .int .i64 (n : Int) ∧ Hid (∀ r, i + 1 ≤ r → r < t → lines.getD r 0 ≠ x)) (fun _ tt => n - (intOf tt).toNat)
          case atStart => exact ⟨i + 1, by omega, by omega, by go_num, rfl, fun r hr1 hr2 => by omega⟩
          case round =>
            obtain ⟨t, ht1, ht2, rfl, rfl, HQN⟩ := hrel
            by_cases hqn : t < n
            case neg =>
              obtain rfl : n = t := by omega
              have HZ2 : Hid (((i + 1 + wt lines i x : Nat) : Int) = (n : Int)) := by show _ = _; rw [wt_miss lines i x (by rw [HNL.out]; omega) (fun r hr => HQN.out (i + 1 + r) (by omega) (by rw [HNL.out] at hr; omega)), HNL.out]
              have t1 : ¬ (n : Int) < (n : Int) := by omega
              clear HQN
              by_cases hgt : far < (n : Int)
              · have HP2 : Hid (pk (fun j => wt lines i (lL.getD j 0)) (j + 1) = j) := HPN1.out (by have h1 := HZ2.out; omega)
                have HF2 : Hid (farV lines i lL (j + 1) = (n : Int)) := by show _ = _; unfold farV; rw [if_neg (by omega), HP2.out, HXJ.out]; exact HZ2.out
                clear HPN1 HPN2 HZ2 HFV
                go_wp2
                go_round
                case rel => exact ⟨j + 1, by omega, by go_num, by rw [HP2.out], by rw [HF2.out]⟩
                case measure => simp [intOf]; omega
              · have HP2 : Hid (pk (fun j => wt lines i (lL.getD j 0)) (j + 1) = pk (fun j => wt lines i (lL.getD j 0)) j ∧ 0 < j) := HPN2.out (by have h1 := HZ2.out; omega)
                have HF2 : Hid (farV lines i lL (j + 1) = far) := by show _ = _; rw [← HFV.out]; unfold farV; rw [if_neg (by omega), if_neg (by have := HP2.out.2; omega), HP2.out.1]
                have HP3 : Hid (((pk (fun j => wt lines i (lL.getD j 0)) (j + 1) : Nat) : Int) = kkv) := by show _ = _; rw [HP2.out.1]; exact HKV.out
                clear HPN1 HPN2 HZ2 HFV HP2
                go_wp2
                go_round
                case rel => exact ⟨j + 1, by omega, by go_num, by rw [HP3.out], by rw [HF2.out]⟩
                case measure => simp [intOf]; omega
            have t1 : (t : Int) < (n : Int) := by omega
            have t0 : (0 : Int) ≤ (t : Int) := by omega
            have hct := HCL.out t hqn
            have hpt := HP.out t hqn
            have hatt := HAT.out t hqn
            obtain ⟨e1, e2, e3⟩ := div_line hpt.1 hpt.2 (show 1 ≤ ln0 by omega)
            rw [← hatt] at e1 e2 e3
            have HQ2 : Hid (lines.getD t 0 ≠ x → ∀ r, i + 1 ≤ r → r < t + 1 → lines.getD r 0 ≠ x) := fun h r h1 h2 => by
              by_cases e : r = t
              · subst e; exact h
              · exact HQN.out r h1 (by omega)
            have HWT : Hid (lines.getD t 0 = x → ((i + 1 + wt lines i x : Nat) : Int) = (t : Int)) := fun h => by
              have := wt_hit lines i (t - (i + 1)) x (by rw [HNL.out]; omega) (by rw [show i + 1 + (t - (i + 1)) = t by omega]; exact h) (fun r hr => HQN.out (i + 1 + r) (by omega) (by omega))
              omega
            generalize lines.getD t 0 = z at e1 e2 e3 HQ2 HWT
            generalize l.getD t 0 = pt at hct hpt e1
            clear hatt hpt HQN
            by_cases hz : z = x
            · have HZ2 : Hid (((i + 1 + wt lines i x : Nat) : Int) = (t : Int)) := HWT.out hz
              clear HQ2 HWT
              subst hz
              by_cases hgt : far < (t : Int)
              · have HP2 : Hid (pk (fun j => wt lines i (lL.getD j 0)) (j + 1) = j) := HPN1.out (by have h1 := HZ2.out; omega)
                have HF2 : Hid (farV lines i lL (j + 1) = (t : Int)) := by show _ = _; unfold farV; rw [if_neg (by omega), HP2.out, HXJ.out]; exact HZ2.out
                clear HPN1 HPN2 HZ2 HFV
                go_wp2
                go_round
                case rel => exact ⟨j + 1, by omega, by go_num, by rw [HP2.out], by rw [HF2.out]⟩
                case measure => simp [intOf]; omega
              · have HP2 : Hid (pk (fun j => wt lines i (lL.getD j 0)) (j + 1) = pk (fun j => wt lines i (lL.getD j 0)) j ∧ 0 < j) := HPN2.out (by have h1 := HZ2.out; omega)
                have HF2 : Hid (farV lines i lL (j + 1) = far) := by show _ = _; rw [← HFV.out]; unfold farV; rw [if_neg (by omega), if_neg (by have := HP2.out.2; omega), HP2.out.1]
                have HP3 : Hid (((pk (fun j => wt lines i (lL.getD j 0)) (j + 1) : Nat) : Int) = kkv) := by show _ = _; rw [HP2.out.1]; exact HKV.out
                clear HPN1 HPN2 HZ2 HFV HP2
                go_wp2
                go_round
                case rel => exact ⟨j + 1, by omega, by go_num, by rw [HP3.out], by rw [HF2.out]⟩
                case measure => simp [intOf]; omega
            · have HQ3 := Hid.mk (HQ2.out hz)
              clear HQ2 HWT
              go_wp2
              go_round
              case rel => exact ⟨t + 1, by omega, by omega, by go_num, rfl, HQ3⟩
              case measure => simp [intOf]; omega
      · have hfI : ¬ (ln : Int) = (y : Int) := by omega
        have HST : Hid ((lm y lines (i + 1)).1 = lL ++ [nn]) := by show _ = _; rw [HS2.out]; simp only [if_neg hfull]
        clear HS2 hfull
        go_wp2_with (at_builtin; refine wpList_append_ri _ _ Try.underlying23 hi3 hz30 hz31 hz32 rfl rfl rfl rfl (HU.out.alloc (.cells #[.int .i64 nn] 3)) (ARow.one wr nn) (by have h1 := HLN.out; simp only [List.length_cons, List.length_nil, h1]; omega) ?_)
        intro v5 w5 R5 G5 A5
        have B5 : Hid (Below w.heap.size w w5) := (HB.out.alloc HB.out.size _).grown G5 (Nat.le_trans HB.out.size (alloc_b (v := wr) (o := .cells #[.int .i64 nn] 3)).size) (fun g hg => (HU.out.lt g hg).1)
        have R5h : Hid (Ri w.heap.size w5 v5 (lm y lines (i + 1)).1) := by show Ri _ _ _ _; rw [HST.out]; exact R5
        clear R5 G5 A5
        go_wp2
        go_roundw
        case rel => exact ⟨i + 1, _, by omega, by go_num, by rw [HSM.out], rfl, R5h, B5⟩
        case measure => simp [intOf]; omega
end Go.Proofs.Ytfhpjcojccfcoaa
