/- The lines of places; Coalesced of both sides. -/
import Derived.Test.YtfhpjcojccfcoaaCo
namespace Go.Proofs.Ytfhpjcojccfcoaa
open Go.ChangeShapes Go.WideShapes Go.ChangeAt Go.RowKit
set_option linter.unusedVariables false
def linesL (l : List Int) (ln : Int) : List Int := l.map (fun x => x / ln)
theorem linesL_snoc (l : List Int) (ln : Int) (k : Nat) (hk : k < l.length) : linesL (l.take (k + 1)) ln = linesL (l.take k) ln ++ [l.getD k 0 / ln] := by
  unfold linesL
  rw [take_snoc l k hk, List.map_append]
  rfl
theorem linesL_len (l : List Int) (ln : Int) : (linesL l ln).length = l.length := List.length_map _
theorem div_line {x ln : Int} (h0 : 0 ≤ x) (h1 : x ≤ 1000000) (h2 : 1 ≤ ln) : x.tdiv ln = x / ln ∧ 0 ≤ x / ln ∧ x / ln ≤ 1000000 := by
  have a : 0 ≤ x / ln := Int.ediv_nonneg h0 (by omega)
  have b : x / ln ≤ x := Int.ediv_le_self _ h0
  exact ⟨Int.tdiv_eq_ediv_of_nonneg h0, a, by omega⟩
set_option maxRecDepth 100000 in
set_option maxHeartbeats 1000000 in
theorem plines (l : List Int) (v : Value) (ln : Int) (w : World) (Q : ARow w v l) (hA : accB l = true) (hl : 1 ≤ ln) : Calls Try.prog 52 #[v, .int .i64 ln] w fun e w' => ∃ u, e = .returned u ∧ Ri w.heap.size w' u (linesL l ln) ∧ Below w.heap.size w w' := by
  obtain ⟨i3, hi3, hz30, hz31, hz32⟩ := info_parts info3
  obtain ⟨oa, oc, rfl, hoa⟩ := Q
  obtain ⟨h200, hP⟩ := accB_at hA
  have HOA := Hid.mk hoa
  have HP := Hid.mk hP
  have HS : Hid (∀ k, k < l.length → linesL (l.take (k + 1)) ln = linesL (l.take k) ln ++ [l.getD k 0 / ln]) := fun k hk => linesL_snoc l ln k hk
  have HL : Hid (∀ k, k ≤ l.length → (linesL (l.take k) ln).length = k) := fun k hk => by rw [linesL_len, List.length_take]; omega
  have HE : Hid (linesL (l.take l.length) ln = linesL l ln) := by show _ = _; rw [List.take_length]
  clear hoa hP hA
  obtain ⟨n, hn⟩ : ∃ n, l.length = n := ⟨_, rfl⟩
  rw [hn] at HOA HP HS HL HE h200 ⊢
  have l0 : ¬ ln = 0 := by omega
  clear hn
  go_enter Try.func52, Try.ntmps52
  go_wp2
  go_loopw [5, 10] (fun u i wr => ∃ k : Nat, k ≤ n ∧ i = .int .i64 k ∧ Hid (Ri w.heap.size wr u (linesL (l.take k) ln)) ∧ Hid (Below w.heap.size w wr)) (fun _ i _ => n - (intOf i).toNat)
  case atStart => exact ⟨0, Nat.zero_le _, rfl, Ri.nil _ _ (Nat.le_refl _), Below.refl _ _⟩
  case round =>
    obtain ⟨k, hk, rfl, HU, HB⟩ := hrel
    by_cases hkn : k < n
    · have i1 : (k : Int) < (n : Int) := by omega
      have i0 : (0 : Int) ≤ (k : Int) := by omega
      obtain ⟨g, o, rfl, hc0⟩ := HOA.out k hkn
      have hc := cell_nx hc0 HB.out
      have hp := HP.out k hkn
      have hs := Hid.mk (HS.out k hkn)
      have hln := HL.out k hk
      clear hc0
      generalize l.getD k 0 = x at hc hp hs
      obtain ⟨d1, d2, d3⟩ := div_line hp.1 hp.2 hl
      generalize x / ln = y at d1 d2 d3 hs
      generalize linesL (l.take k) ln = M at HU hs hln
      have HLN := Hid.mk hln
      clear hp hln
      go_wp2_with (at_builtin; refine wpList_append_ri _ _ Try.underlying23 hi3 hz30 hz31 hz32 rfl rfl rfl rfl (HU.out.alloc (.cells #[.int .i64 y] 3)) (ARow.one wr y) (by have h1 := HLN.out; simp only [List.length_cons, List.length_nil, h1]; omega) ?_)
      intro v2 w2 R2 G2 A2
      have B2 : Hid (Below w.heap.size w w2) := (HB.out.alloc HB.out.size _).grown G2 (Nat.le_trans HB.out.size (alloc_b (v := wr) (o := .cells #[.int .i64 y] 3)).size) (fun g hg => (HU.out.lt g hg).1)
      have R2h : Hid (Ri w.heap.size w2 v2 (linesL (l.take (k + 1)) ln)) := by show Ri _ _ _ _; rw [hs.out]; exact R2
      clear R2 G2 A2 HU HB hs
      go_wp2
      go_roundw
      case rel => exact ⟨k + 1, by omega, by go_num, R2h, B2⟩
      case measure => simp [intOf]; omega
    · obtain rfl : n = k := by omega
      have i1 : ¬ (n : Int) < (n : Int) := by omega
      go_wp2
      go_ret
      exact ⟨_, rfl, by rw [← HE.out]; exact HU.out, HB.out⟩
def mulB (s x : Int) : Bool := x % s == 0
/-- What Coalesced takes. -/
def coalB (l : List Int) (s ln : Int) : Bool := accB l && (pwB s 1 16 && (pwB ln 16 256 && l.all (mulB s)))
def coalL (l : List Int) (s ln : Int) : List Int := if coalB l s ln = true then srt (linesL l ln) else []
theorem srt_lines (l : List Int) (ln : Int) (k : Nat) (hk : k < l.length) : srt (linesL (l.take (k + 1)) ln) = insU (l.getD k 0 / ln) (srt (linesL (l.take k) ln)) := by rw [linesL_snoc l ln k hk, srt_snoc]
theorem tmod_small {x s : Int} (h0 : 0 ≤ x) : x.tmod s = x % s := Int.tmod_eq_emod_of_nonneg h0
set_option maxRecDepth 100000 in
set_option maxHeartbeats 2000000 in
theorem mcoal (l : List Int) (v : Value) (s ln : Int) (w : World) (Q : ARow w v l) : Calls Try.prog 17 #[v, .int .i64 s, .int .i64 ln] w fun e w' => ∃ u, e = .returned (.tuple #[u, .bool (coalB l s ln)]) ∧ Ri w.heap.size w' u (coalL l s ln) ∧ Below w.heap.size w w' := by
  have h43 := mplaces l v w Q
  obtain ⟨oa, oc, rfl, hoa⟩ := Q
  have HZZ : Hid (coalL l s ln = if coalB l s ln = true then srt (linesL l ln) else []) := rfl
  have HBB : Hid (coalB l s ln = (accB l && (pwB s 1 16 && (pwB ln 16 256 && l.all (mulB s))))) := rfl
  generalize coalL l s ln = ZZ at HZZ ⊢
  generalize coalB l s ln = BB at HZZ HBB ⊢
  cases hA : accB l
  case false =>
    have HBF : Hid (BB = false) := by show _ = _; rw [HBB.out, hA]; simp
    have HZ0 : Hid (ZZ = []) := by show _ = _; rw [HZZ.out, HBF.out]; rfl
    rw [hA] at h43
    clear hA hoa
    go_enter Try.func17, Try.ntmps17
    go_wp2_with (first | (go_at_call 46; refine h43.mono ?_; rintro e w2 ⟨rfl, hw2⟩; subst w2))
    go_ret2
    exact ⟨_, by rw [HBF.out]; rfl, by rw [HZ0.out]; exact Ri.nil _ _ (Nat.le_refl _), Below.refl _ _⟩
  rw [hA] at h43
  cases hS : pwB s 1 16
  case false =>
    have HBF : Hid (BB = false) := by show _ = _; rw [HBB.out, hS]; simp
    have HZ0 : Hid (ZZ = []) := by show _ = _; rw [HZZ.out, HBF.out]; rfl
    have HP1 : Hid (∀ w, Calls Try.prog 53 #[.int .i64 s, .int .i64 1, .int .i64 16] w fun e w' => e = .returned (.bool false) ∧ w' = w) := fun w => by have := mpower s 1 16 w (by decide) (by decide); rwa [hS] at this
    clear hA hS hoa
    go_enter Try.func17, Try.ntmps17
    go_wp2_with (first | (go_at_call 46; refine h43.mono ?_; rintro e w2 ⟨rfl, hw2⟩; subst w2) | (go_at_call 53; (with_reducible show Calls Try.prog 53 #[.int .i64 s, .int .i64 1, .int .i64 16] _ _); refine (HP1.out _).mono ?_; rintro e w3 ⟨rfl, hw3⟩; subst w3))
    go_ret2
    exact ⟨_, by rw [HBF.out]; rfl, by rw [HZ0.out]; exact Ri.nil _ _ (Nat.le_refl _), Below.refl _ _⟩
  have HP1 : Hid (∀ w, Calls Try.prog 53 #[.int .i64 s, .int .i64 1, .int .i64 16] w fun e w' => e = .returned (.bool true) ∧ w' = w) := fun w => by have := mpower s 1 16 w (by decide) (by decide); rwa [hS] at this
  cases hL : pwB ln 16 256
  case false =>
    have HBF : Hid (BB = false) := by show _ = _; rw [HBB.out, hL]; simp
    have HZ0 : Hid (ZZ = []) := by show _ = _; rw [HZZ.out, HBF.out]; rfl
    have HP2 : Hid (∀ w, Calls Try.prog 53 #[.int .i64 ln, .int .i64 16, .int .i64 256] w fun e w' => e = .returned (.bool false) ∧ w' = w) := fun w => by have := mpower ln 16 256 w (by decide) (by decide); rwa [hL] at this
    clear hA hS hL hoa
    go_enter Try.func17, Try.ntmps17
    go_wp2_with (first | (go_at_call 46; refine h43.mono ?_; rintro e w2 ⟨rfl, hw2⟩; subst w2) | (go_at_call 53; (with_reducible show Calls Try.prog 53 #[.int .i64 s, .int .i64 1, .int .i64 16] _ _); refine (HP1.out _).mono ?_; rintro e w3 ⟨rfl, hw3⟩; subst w3) | (go_at_call 53; (with_reducible show Calls Try.prog 53 #[.int .i64 ln, .int .i64 16, .int .i64 256] _ _); refine (HP2.out _).mono ?_; rintro e w4 ⟨rfl, hw4⟩; subst w4))
    go_ret2
    exact ⟨_, by rw [HBF.out]; rfl, by rw [HZ0.out]; exact Ri.nil _ _ (Nat.le_refl _), Below.refl _ _⟩
  have HP2 : Hid (∀ w, Calls Try.prog 53 #[.int .i64 ln, .int .i64 16, .int .i64 256] w fun e w' => e = .returned (.bool true) ∧ w' = w) := fun w => by have := mpower ln 16 256 w (by decide) (by decide); rwa [hL] at this
  have hs1 := (pwB_iff hS).1
  have hs2 := (pwB_iff hS).2
  have hl1 := (pwB_iff hL).1
  have s0 : ¬ s = 0 := by omega
  obtain ⟨h200, hP⟩ := accB_at hA
  have HBB : Hid (BB = l.all (mulB s)) := by show _ = _; rw [HBB.out, hA, hS, hL]; rfl
  have HOA := Hid.mk hoa
  have HP := Hid.mk hP
  have HF : Hid (∀ i, i < l.length → mulB s (l.getD i 0) = false → BB = false) := fun i hi h => by rw [HBB.out]; exact all_false hi h
  have HT : Hid ((∀ i, i < l.length → mulB s (l.getD i 0) = true) → BB = true) := fun h => by rw [HBB.out]; exact all_getD.2 h
  have HZF : Hid (BB = false → ZZ = []) := fun h => by rw [HZZ.out, h]; rfl
  have HZT : Hid (BB = true → ZZ = srt (linesL (l.take l.length) ln)) := fun h => by rw [HZZ.out, h, if_pos rfl, List.take_length]
  have HS : Hid (∀ k, k < l.length → srt (linesL (l.take (k + 1)) ln) = insU (l.getD k 0 / ln) (srt (linesL (l.take k) ln))) := fun k hk => srt_lines l ln k hk
  have HL : Hid (∀ k, k ≤ l.length → (srt (linesL (l.take k) ln)).length ≤ 200) := fun k hk => Nat.le_trans (srt_len _) (by rw [linesL_len, List.length_take]; omega)
  clear hoa hP hA hS hL HBB HZZ
  obtain ⟨n, hn⟩ : ∃ n, l.length = n := ⟨_, rfl⟩
  rw [hn] at HOA HP HF HT HZT HS HL h200 h43 ⊢
  have l0 : ¬ ln = 0 := by omega
  clear hn
  go_enter Try.func17, Try.ntmps17
  go_wp2_with (first | (go_at_call 46; refine h43.mono ?_; rintro e w2 ⟨rfl, hw2⟩; subst w2) | (go_at_call 53; (with_reducible show Calls Try.prog 53 #[.int .i64 s, .int .i64 1, .int .i64 16] _ _); refine (HP1.out _).mono ?_; rintro e w3 ⟨rfl, hw3⟩; subst w3) | (go_at_call 53; (with_reducible show Calls Try.prog 53 #[.int .i64 ln, .int .i64 16, .int .i64 256] _ _); refine (HP2.out _).mono ?_; rintro e w4 ⟨rfl, hw4⟩; subst w4))
  go_loopw [8, 26] (fun u i wr => ∃ k : Nat, k ≤ n ∧ i = .int .i64 k ∧ Hid (∀ i, i < k → mulB s (l.getD i 0) = true) ∧ Hid (Ri w.heap.size wr u (srt (linesL (l.take k) ln))) ∧ Hid (Below w.heap.size w wr)) (fun _ i _ => n - (intOf i).toNat)
  case atStart => exact ⟨0, Nat.zero_le _, rfl, fun i hi => by omega, Ri.nil _ _ (Nat.le_refl _), Below.refl _ _⟩
  case round =>
    obtain ⟨k, hk, rfl, HK, HU, HB⟩ := hrel
    by_cases hkn : k < n
    · have i1 : (k : Int) < (n : Int) := by omega
      have i0 : (0 : Int) ≤ (k : Int) := by omega
      obtain ⟨g, o, rfl, hc0⟩ := HOA.out k hkn
      have hc := cell_nx hc0 HB.out
      have hp := HP.out k hkn
      have hs := Hid.mk (HS.out k hkn)
      have hln := Hid.mk (HL.out k hk)
      have hf := Hid.mk (HF.out k hkn)
      have hk2 : Hid (mulB s (l.getD k 0) = true → ∀ i, i < k + 1 → mulB s (l.getD i 0) = true) := fun h i hi => by
        by_cases e : i = k
        · subst e; exact h
        · exact HK.out i (by omega)
      clear hc0
      generalize l.getD k 0 = x at hc hp hs hf hk2
      obtain ⟨d1, d2, d3⟩ := div_line hp.1 hp.2 (show 1 ≤ ln by omega)
      have hm := tmod_small (s := s) hp.1
      have HMB : Hid (mulB s x = (x % s == 0)) := rfl
      have r0 := Int.emod_nonneg x s0
      have r1 := Int.emod_lt_of_pos x (show 0 < s by omega)
      generalize x % s = r at hm HMB r0 r1
      generalize x / ln = y at d1 d2 d3 hs
      have HMB2 : Hid (mulB s x = (r == 0)) := HMB
      clear hp HMB
      by_cases hr : r = 0
      · have hk3 := Hid.mk (hk2.out (by rw [HMB2.out, hr]; rfl))
        have h47 := mput w.heap.size _ _ y wr HU.out (Nat.le_trans hln.out (by decide))
        clear hf hk2 HMB2 HK
        subst hr
        go_wp2_with (go_at_call 47; refine h47.mono ?_; rintro e w3 ⟨v3, rfl, R3, B3⟩)
        have R3h : Hid (Ri w.heap.size w3 v3 (srt (linesL (l.take (k + 1)) ln))) := by show Ri _ _ _ _; rw [hs.out]; exact R3
        have B3h : Hid (Below w.heap.size w w3) := HB.out.trans (B3.mono HB.out.size)
        clear R3 B3 h47
        go_roundw
        case rel => exact ⟨k + 1, by omega, by go_num, hk3, R3h, B3h⟩
        case measure => simp [intOf]; omega
      · have HBF := Hid.mk (hf.out (by rw [HMB2.out]; exact beq_false_of_ne hr))
        have HZ0 := Hid.mk (HZF.out HBF.out)
        clear hf hk2 HMB2 HK
        go_wp2
        go_ret2
        exact ⟨_, by rw [HBF.out]; rfl, by rw [HZ0.out]; exact Ri.nil _ _ HB.out.size, HB.out⟩
    · obtain rfl : n = k := by omega
      have i1 : ¬ (n : Int) < (n : Int) := by omega
      have HBT := Hid.mk (HT.out HK.out)
      have HZ1 := Hid.mk (HZT.out HBT.out)
      go_wp2
      go_ret2
      exact ⟨_, by rw [HBT.out]; rfl, by rw [HZ1.out]; exact HU.out, HB.out⟩
theorem psize1 (x s : Int) (b : Nat) (w : World) (hs : 1 ≤ s) (hc : w.cell? ⟨b, 0, none⟩ = some (.int .i64 s)) (hx : 0 ≤ x) (hs2 : s ≤ 16) (hx2 : x ≤ 1000000) : Calls Try.prog 51 #[.int .i64 x, .pointer (some ⟨b, 0, none⟩)] w fun e w' => e = .returned (.bool (!mulB s x)) ∧ w' = w := by
  have s0 : ¬ s = 0 := by omega
  have hm := tmod_small (s := s) hx
  have HMB : Hid (mulB s x = (x % s == 0)) := rfl
  have r0 := Int.emod_nonneg x s0
  have r1 := Int.emod_lt_of_pos x (show 0 < s by omega)
  generalize mulB s x = BB at HMB ⊢
  generalize x % s = r at hm HMB r0 r1
  go_enter Try.func51, Try.ntmps51
  go_wp2
  go_ret
  exact ⟨by rw [HMB.out]; rfl, rfl⟩
set_option maxRecDepth 100000 in
set_option maxHeartbeats 600000 in
theorem pcoal (l : List Int) (v : Value) (s ln : Int) (w : World) (Q : ARow w v l) (hsm : l.length ≤ 1048576) : Calls Try.prog 16 #[v, .int .i64 s, .int .i64 ln] w fun e w' => ∃ u, e = .returned (.tuple #[u, .bool (coalB l s ln)]) ∧ IOwn w.heap.size w' u (coalL l s ln) ∧ Below w.heap.size w w' := by
  obtain ⟨W, hW⟩ : ∃ W, W = w.alloc (.cells #[.int .i64 s] 3) := ⟨_, rfl⟩
  have BW : Hid (Below w.heap.size w W) := by show Below _ _ _; rw [hW]; exact alloc_b
  have hcs : W.cell? ⟨w.heap.size, 0, none⟩ = some (.int .i64 s) := by rw [hW]; simp
  have h43 := paccs l v W (Q.next BW.out) hsm
  have HQ : Hid (∀ w', Below W.heap.size W w' → ARow w' v l) := fun w' b => (Q.next BW.out).next b
  have HBB2 : Hid (∀ w', Below W.heap.size W w' → Below w.heap.size w w') := fun w' b => BW.out.trans (b.mono BW.out.size)
  have HCS : Hid (∀ w', Below W.heap.size W w' → w'.cell? ⟨w.heap.size, 0, none⟩ = some (.int .i64 s)) := fun w' b => cell_nx hcs b
  obtain ⟨oa, oc, rfl, hoa⟩ := Q
  have HZZ : Hid (coalL l s ln = if coalB l s ln = true then srt (linesL l ln) else []) := rfl
  have HBB : Hid (coalB l s ln = (accB l && (pwB s 1 16 && (pwB ln 16 256 && l.all (mulB s))))) := rfl
  generalize coalL l s ln = ZZ at HZZ ⊢
  generalize coalB l s ln = BB at HZZ HBB ⊢
  cases hA : accB l
  case false =>
    have HBF : Hid (BB = false) := by show _ = _; rw [HBB.out, hA]; simp
    have HZ0 : Hid (ZZ = []) := by show _ = _; rw [HZZ.out, HBF.out]; rfl
    rw [hA] at h43
    clear hA hoa
    subst hW
    go_enter Try.func16, Try.ntmps16
    go_wp2_with (first | (go_at_call 43; refine h43.mono ?_; rintro e w2 ⟨rfl, B2⟩; (have hc2 := HCS.out w2 B2)))
    go_ret2
    exact ⟨_, by rw [HBF.out]; rfl, by rw [HZ0.out]; exact Or.inl ⟨rfl, rfl⟩, HBB2.out _ B2⟩
  rw [hA] at h43
  cases hS : pwB s 1 16
  case false =>
    have HBF : Hid (BB = false) := by show _ = _; rw [HBB.out, hS]; simp
    have HZ0 : Hid (ZZ = []) := by show _ = _; rw [HZZ.out, HBF.out]; rfl
    have HP1 : Hid (∀ w, Calls Try.prog 49 #[.int .i64 s, .int .i64 1, .int .i64 16] w fun e w' => e = .returned (.bool false) ∧ w' = w) := fun w => by have := ppower s 1 16 w (by decide) (by decide); rwa [hS] at this
    clear hA hS hoa
    subst hW
    go_enter Try.func16, Try.ntmps16
    go_wp2_with (first | (go_at_call 43; refine h43.mono ?_; rintro e w2 ⟨rfl, B2⟩; (have hc2 := HCS.out w2 B2)) | (go_at_call 49; (with_reducible show Calls Try.prog 49 #[.int .i64 s, .int .i64 1, .int .i64 16] _ _); refine (HP1.out _).mono ?_; rintro e w3 ⟨rfl, hw3⟩; subst w3))
    go_ret2
    exact ⟨_, by rw [HBF.out]; rfl, by rw [HZ0.out]; exact Or.inl ⟨rfl, rfl⟩, HBB2.out _ B2⟩
  have HP1 : Hid (∀ w, Calls Try.prog 49 #[.int .i64 s, .int .i64 1, .int .i64 16] w fun e w' => e = .returned (.bool true) ∧ w' = w) := fun w => by have := ppower s 1 16 w (by decide) (by decide); rwa [hS] at this
  cases hL : pwB ln 16 256
  case false =>
    have HBF : Hid (BB = false) := by show _ = _; rw [HBB.out, hL]; simp
    have HZ0 : Hid (ZZ = []) := by show _ = _; rw [HZZ.out, HBF.out]; rfl
    have HP2 : Hid (∀ w, Calls Try.prog 49 #[.int .i64 ln, .int .i64 16, .int .i64 256] w fun e w' => e = .returned (.bool false) ∧ w' = w) := fun w => by have := ppower ln 16 256 w (by decide) (by decide); rwa [hL] at this
    clear hA hS hL hoa
    subst hW
    go_enter Try.func16, Try.ntmps16
    go_wp2_with (first | (go_at_call 43; refine h43.mono ?_; rintro e w2 ⟨rfl, B2⟩; (have hc2 := HCS.out w2 B2)) | (go_at_call 49; (with_reducible show Calls Try.prog 49 #[.int .i64 s, .int .i64 1, .int .i64 16] _ _); refine (HP1.out _).mono ?_; rintro e w3 ⟨rfl, hw3⟩; subst w3) | (go_at_call 49; (with_reducible show Calls Try.prog 49 #[.int .i64 ln, .int .i64 16, .int .i64 256] _ _); refine (HP2.out _).mono ?_; rintro e w4 ⟨rfl, hw4⟩; subst w4))
    go_ret2
    exact ⟨_, by rw [HBF.out]; rfl, by rw [HZ0.out]; exact Or.inl ⟨rfl, rfl⟩, HBB2.out _ B2⟩
  have HP2 : Hid (∀ w, Calls Try.prog 49 #[.int .i64 ln, .int .i64 16, .int .i64 256] w fun e w' => e = .returned (.bool true) ∧ w' = w) := fun w => by have := ppower ln 16 256 w (by decide) (by decide); rwa [hL] at this
  have hs1 := (pwB_iff hS).1
  have hs2 := (pwB_iff hS).2
  have hl1 := (pwB_iff hL).1
  obtain ⟨h200, hP⟩ := accB_at hA
  have HBB : Hid (BB = l.all (mulB s)) := by show _ = _; rw [HBB.out, hA, hS, hL]; rfl
  have HS50 : Hid (∀ w', Below W.heap.size W w' → Calls Try.prog 50 #[.slice oa l.length oc, .func (.func 51) #[] #[.pointer (some ⟨w.heap.size, 0, none⟩)]] w' fun e w'' => e = .returned (.bool (!BB)) ∧ Below w'.heap.size w' w'') := fun w' b => by
    have h := sizc l (.slice oa l.length oc) w.heap.size (fun x => !mulB s x) w' (HQ.out _ b) hsm (fun x hx w'' b2 => by
      obtain ⟨i, hi, rfl⟩ := List.getElem_of_mem hx
      have hp := hP i hi
      rw [show l.getD i 0 = l[i] by simp [List.getD, hi]] at hp
      exact (psize1 _ s w.heap.size w'' hs1 (HCS.out _ (b.trans (b2.mono b.size))) hp.1 hs2 hp.2).mono fun e w3 ⟨h1, h2⟩ => ⟨h1, by rw [h2]; exact Below.refl _ _⟩)
    have e : (l.any fun x => !mulB s x) = !BB := by rw [HBB.out]; simp [List.any_eq_not_all_not]
    rwa [e] at h
  have H52 : Hid (∀ w', Below W.heap.size W w' → Calls Try.prog 52 #[.slice oa l.length oc, .int .i64 ln] w' fun e w'' => ∃ u, e = .returned u ∧ Ri w'.heap.size w'' u (linesL l ln) ∧ Below w'.heap.size w' w'') := fun w' b => plines l _ ln w' (HQ.out _ b) hA (by omega)
  have H44 : Hid (∀ u w', Ri w.heap.size w' u (linesL l ln) → Calls Try.prog 44 #[u, .slice none 0 0] w' fun e w'' => ∃ z, e = .returned z ∧ IOwn w'.heap.size w'' z (srt (linesL l ln)) ∧ Below w'.heap.size w' w'') := fun u w' r => by
    have := union46 u (.slice none 0 0) (linesL l ln) [] w' (by rw [linesL_len]; simp; omega) r.arow (ARow.none _ _ _ rfl)
    rwa [List.append_nil] at this
  have HZF : Hid (BB = false → ZZ = []) := fun h => by rw [HZZ.out, h]; rfl
  have HZT : Hid (BB = true → ZZ = srt (linesL l ln)) := fun h => by rw [HZZ.out, h, if_pos rfl]
  have HBS : Hid (w.heap.size ≤ W.heap.size) := BW.out.size
  clear hoa hP hA hS hL HBB HZZ hs1 hs2 hl1 HQ BW
  subst hW
  cases BB
  · have HZ0 := Hid.mk (HZF.out rfl)
    go_enter Try.func16, Try.ntmps16
    go_wp2_with (first | (go_at_call 43; refine h43.mono ?_; rintro e w2 ⟨rfl, B2⟩; (have hc2 := HCS.out w2 B2)) | (go_at_call 49; (with_reducible show Calls Try.prog 49 #[.int .i64 s, .int .i64 1, .int .i64 16] _ _); refine (HP1.out _).mono ?_; rintro e w3 ⟨rfl, hw3⟩; subst w3) | (go_at_call 49; (with_reducible show Calls Try.prog 49 #[.int .i64 ln, .int .i64 16, .int .i64 256] _ _); refine (HP2.out _).mono ?_; rintro e w4 ⟨rfl, hw4⟩; subst w4) | (go_at_call 50; refine (HS50.out w2 B2).mono ?_; rintro e w5 ⟨rfl, B5⟩))
    go_ret2
    exact ⟨_, rfl, by rw [HZ0.out]; exact Or.inl ⟨rfl, rfl⟩, HBB2.out _ (B2.trans (B5.mono B2.size))⟩
  · have HZ1 := Hid.mk (HZT.out rfl)
    go_enter Try.func16, Try.ntmps16
    go_wp2_with (first | (go_at_call 43; refine h43.mono ?_; rintro e w2 ⟨rfl, B2⟩; (have hc2 := HCS.out w2 B2)) | (go_at_call 49; (with_reducible show Calls Try.prog 49 #[.int .i64 s, .int .i64 1, .int .i64 16] _ _); refine (HP1.out _).mono ?_; rintro e w3 ⟨rfl, hw3⟩; subst w3) | (go_at_call 49; (with_reducible show Calls Try.prog 49 #[.int .i64 ln, .int .i64 16, .int .i64 256] _ _); refine (HP2.out _).mono ?_; rintro e w4 ⟨rfl, hw4⟩; subst w4) | (go_at_call 50; refine (HS50.out w2 B2).mono ?_; rintro e w5 ⟨rfl, B5⟩; (have B05 := B2.trans (B5.mono B2.size))) | (go_at_call 52; refine (H52.out w5 B05).mono ?_; rintro e w6 ⟨u6, rfl, R6, B6⟩; (have B06 := B05.trans (B6.mono B05.size)); (have R6u := R6.up (Nat.le_trans HBS.out B05.size))) | (go_at_call 44; refine (H44.out u6 w6 R6u).mono ?_; rintro e w7 ⟨u7, rfl, R7, B7⟩))
    go_ret2
    exact ⟨_, rfl, by rw [HZ1.out]; exact R7.low (Nat.le_trans HBS.out B06.size), HBB2.out _ (B06.trans (B7.mono B06.size))⟩
end Go.Proofs.Ytfhpjcojccfcoaa
