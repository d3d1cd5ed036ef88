/- The model's l15Read: a place is read from a cache of the call's own. -/
import Derived.Test.YtfhpjcojccfcoaaKx
import Derived.BigQuiet
namespace Go.Proofs.Ytfhpjcojccfcoaa
open Go.ChangeShapes Go.WideShapes Go.ChangeAt Go.RowKit
set_option linter.unusedVariables false
/-- Where a number was seen last among the first j of a row without twins; -1 where it was not. -/
def ixv (l : List Int) (n : Int) (j : Nat) : Int := if n ∈ l ∧ l.idxOf n < j then ((l.idxOf n : Nat) : Int) else -1
theorem ixv_zero (l : List Int) (n : Int) : ixv l n 0 = -1 := by unfold ixv; rw [if_neg (fun h => absurd h.2 (Nat.not_lt_zero _))]
theorem ixv_succ (l : List Int) (n : Int) (j : Nat) : ixv l n (j + 1) = if n ∈ l ∧ l.idxOf n = j then (j : Int) else ixv l n j := by
  unfold ixv
  by_cases h : n ∈ l ∧ l.idxOf n = j
  · rw [if_pos h, if_pos ⟨h.1, by omega⟩, h.2]
  · rw [if_neg h]
    by_cases h2 : n ∈ l ∧ l.idxOf n < j
    · rw [if_pos h2, if_pos ⟨h2.1, by omega⟩]
    · rw [if_neg h2, if_neg (fun q => h2 ⟨q.1, by have : l.idxOf n ≠ j := fun e => h ⟨q.1, e⟩; omega⟩)]
set_option maxRecDepth 100000 in
set_option maxHeartbeats 1000000 in
theorem mread (B cb gm m y l p cp : Nat) (U : Nat → Value) (L : Nat → List Int) (coin pl : Int) (w : World) (C : C6 w cb (.int .i64 (m : Int)) (.int .i64 (y : Int)) (.int .i64 (l : Int)) (.int .i64 (p : Int)) (.slice (some ⟨gm, 0, none⟩) m cp) (.int .i64 coin)) (K : Kx B w cb gm m U L) (ok : Cs.ok ⟨L, coin⟩ m y) (m1 : 1 ≤ m) (m2 : m ≤ 64) (y1 : 1 ≤ y) (y2 : y ≤ 8) (l1 : 16 ≤ l) (l2 : l ≤ 256) (p1 : 1 ≤ p) (p2 : p ≤ 3) (a0 : 0 ≤ pl) (a1 : pl ≤ 1000000) (cpm : m ≤ cp) : Calls Try.prog 64 #[.pointer (some ⟨cb, 0, none⟩), .int .i64 pl] w fun e w' => e = .returned (.tuple #[.bool (Cs.hit ⟨L, coin⟩ m y l p pl), .int .i64 (Cs.out ⟨L, coin⟩ m y l p pl)]) ∧ C6 w' cb (.int .i64 (m : Int)) (.int .i64 (y : Int)) (.int .i64 (l : Int)) (.int .i64 (p : Int)) (.slice (some ⟨gm, 0, none⟩) m cp) (.int .i64 (Cs.rd ⟨L, coin⟩ m y l p pl).coin) ∧ ∃ U', Kx B w' cb gm m U' (Cs.rd ⟨L, coin⟩ m y l p pl).L ∧ Fr cb gm m U U' w w' := by
  obtain ⟨i3, hi3, hz30, hz31, hz32⟩ := info_parts info3
  have hpl := place_set (m := m) (line := (l : Int)) (p := pl) (by omega) (by omega) a0 a1
  obtain ⟨d1, _, _⟩ := div_line a0 a1 (show 1 ≤ (l : Int) by omega)
  obtain ⟨n0, n1, hs, hsI⟩ := hpl
  obtain ⟨s, hsd⟩ : ∃ s, (pl / (l : Int) % (m : Int)).toNat = s := ⟨_, rfl⟩
  have hR : Hid (Cs.r1 ⟨L, coin⟩ m y l p pl = step1 y p coin (L s) (pl / (l : Int))) := by show step1 _ _ _ (L ((pl / (l : Int) % (m : Int)).toNat)) _ = _; rw [hsd]
  have hL2 : Hid ((Cs.rd ⟨L, coin⟩ m y l p pl).L = upL L s (Cs.r1 ⟨L, coin⟩ m y l p pl).1) := by show (fun x => if x = (pl / (l : Int) % (m : Int)).toNat then _ else L x) = _; rw [hsd]; rfl
  have hset : setP m y s (L s) := ok.1 s (by omega)
  have hco : 0 ≤ coin ∧ coin < 65536 := ok.2
  have hC2 : Hid ((Cs.rd ⟨L, coin⟩ m y l p pl).coin = (Cs.r1 ⟨L, coin⟩ m y l p pl).2.1) := rfl
  have hH2 : Hid (Cs.hit ⟨L, coin⟩ m y l p pl = (Cs.r1 ⟨L, coin⟩ m y l p pl).2.2.1) := rfl
  have hO2 : Hid (Cs.out ⟨L, coin⟩ m y l p pl = (Cs.r1 ⟨L, coin⟩ m y l p pl).2.2.2) := rfl
  generalize Cs.rd ⟨L, coin⟩ m y l p pl = RD at hL2 hC2 ⊢
  generalize Cs.hit ⟨L, coin⟩ m y l p pl = HI at hH2 ⊢
  generalize Cs.out ⟨L, coin⟩ m y l p pl = OU at hO2 ⊢
  generalize Cs.r1 ⟨L, coin⟩ m y l p pl = R1 at hR hL2 hC2 hH2 hO2
  have hms := tmod_small (s := (m : Int)) n0
  rw [hsd] at hs hsI
  rw [hsI] at hms
  generalize pl / (l : Int) = nn at d1 n0 n1 hms hR
  clear ok hsd hsI
  have KH := Hid.mk K
  have CH := Hid.mk C
  have q0 := C.c0
  have q2 := C.c2
  have q4 := C.c4
  have qs := K.c s hs
  have m0 : ¬ (m : Int) = 0 := by omega
  have l0 : ¬ (l : Int) = 0 := by omega
  have s0 : (0 : Int) ≤ (s : Int) := by omega
  have s1 : (s : Int) < (m : Int) := by omega
  have hrow := K.r s hs
  obtain ⟨ad, cr, hU, hcr0, hga⟩ : ∃ ad cr, U s = .slice ad (L s).length cr ∧ (L s).length ≤ cr ∧ (0 < (L s).length → ∃ g, ad = some ⟨g, 0, none⟩) := by
    rcases ri_cases hrow with ⟨h1, h2⟩ | ⟨g, c, h1, h2, _, _⟩
    · exact ⟨none, 0, by rw [h1, h2]; rfl, by rw [h1]; exact Nat.le_refl _, fun h => by rw [h1] at h; exact absurd h (Nat.lt_irrefl _)⟩
    · exact ⟨_, c, h1, h2, fun _ => ⟨g, rfl⟩⟩
  rw [hU] at qs hrow
  have HU := Hid.mk hU
  have HRow : Hid (∀ w', Below w.heap.size w w' → Ri B w' (.slice ad (L s).length cr) (L s)) := fun w' b => hrow.next b
  have HLs : Hid (upL L s (L s) = L) := by show _ = _; funext x; unfold upL; by_cases e : x = s; (subst e; rw [if_pos rfl]); rw [if_neg e]
  generalize L s = lL at qs hset hcr0 hga hR HRow HLs HU
  obtain ⟨hl8, _, hnd⟩ := hset
  have HND := Hid.mk hnd
  obtain ⟨ln, hln⟩ : ∃ ln, lL.length = ln := ⟨_, rfl⟩
  have HLN : Hid (lL.length = ln) := hln
  rw [hln] at qs hcr0 hga HRow hl8
  have HGA := Hid.mk hga
  have ln8 : ln ≤ 8 := by omega
  have HIX : Hid (∀ j, j < ln → (lL.getD j 0 = nn ↔ nn ∈ lL ∧ lL.idxOf nn = j)) := fun j hj => idx_at HND.out (by rw [HLN.out]; exact hj)
  have HIL : Hid (nn ∈ lL → lL.idxOf nn < ln) := fun h => by rw [← HLN.out]; exact List.idxOf_lt_length_of_mem h
  clear hln hU hrow hnd hga
  go_enter Try.func64, Try.ntmps64
  go_wp2
  go_quiet (fail)
  obtain ⟨WA, hWA⟩ : ∃ W, w.drewN nq = W := ⟨_, rfl⟩
  have BA : Below w.heap.size w WA := by rw [← hWA]; exact below_drewN (Below.refl _ _) nq
  rw [hWA]
  have CA := C.next BA
  have KA := K.next BA
  have FA : Fr cb gm m U U w WA := Fr.ofBelow BA
  have HRA : Hid (∀ w', Below WA.heap.size WA w' → Ri B w' (.slice ad ln cr) lL) := fun w' b => HRow.out w' (BA.trans (b.mono BA.size))
  have HRI := Hid.mk (HRow.out WA BA).arow
  clear hWA q0 q2 q4 qs C K HRow
  go_wp2
  go_loop [8, 33] (fun z i => ∃ j : Nat, j ≤ ln ∧ i = .int .i64 j ∧ z = .int .i64 (ixv lL nn j)) (fun _ i => ln - (intOf i).toNat)
  case atStart => exact ⟨0, Nat.zero_le _, rfl, by rw [ixv_zero]⟩
  case round =>
    obtain ⟨j, hj, rfl, rfl⟩ := hrel
    by_cases hjl : j < ln
    · have i1 : (j : Int) < (ln : Int) := by omega
      have i0 : (0 : Int) ≤ (j : Int) := by omega
      obtain ⟨g, rfl⟩ := HGA.out (by omega)
      obtain ⟨oa, oc, hv, hcell⟩ := HRI.out
      injection hv with hv1 hv2 hv3
      obtain ⟨g', o', e1, hc⟩ := hcell j (by rw [HLN.out]; exact hjl)
      rw [← hv1] at e1
      injection e1 with e1
      injection e1 with e1 e2
      subst e1; subst e2
      rw [Nat.zero_add] at hc
      have HST := Hid.mk (ixv_succ lL nn j)
      have HX := Hid.mk (HIX.out j hjl)
      clear hcell hv1 hv2 hv3
      generalize lL.getD j 0 = z at hc HX
      generalize ixv lL nn j = ix at HST ⊢
      by_cases hz : z = nn
      · have HS2 : Hid (ixv lL nn (j + 1) = (j : Int)) := by show _ = _; rw [HST.out, if_pos (HX.out.1 hz)]
        clear HST HX
        subst hz
        go_wp2
        go_round
        case rel => exact ⟨j + 1, by omega, by go_num, by rw [HS2.out]⟩
        case measure => simp [intOf]; omega
      · have HS2 : Hid (ixv lL nn (j + 1) = ix) := by show _ = _; rw [HST.out, if_neg (fun h => hz (HX.out.2 h))]
        clear HST HX
        go_wp2
        go_round
        case rel => exact ⟨j + 1, by omega, by go_num, by rw [HS2.out]⟩
        case measure => simp [intOf]; omega
    obtain rfl : ln = j := by omega
    have i1 : ¬ (ln : Int) < (ln : Int) := by omega
    clear hjl hj HIX
    by_cases hin : nn ∈ lL
    · -- a hit
      have hk := HIL.out hin
      have HXE : Hid (ixv lL nn ln = ((lL.idxOf nn : Nat) : Int)) := by show _ = _; unfold ixv; rw [if_pos ⟨hin, hk⟩]
      rw [HXE.out]
      have HR1 : Hid (R1 = (if (p : Int) = 1 then cut lL (lL.idxOf nn) ++ [nn] else lL, coin, true, -1)) := by show _ = _; rw [hR.out]; unfold step1; rw [if_pos hin]
      clear HXE hR HIL hin
      generalize lL.idxOf nn = k at hk HR1 ⊢
      have k0 : (0 : Int) ≤ (k : Int) := by omega
      have q3 := CA.c3
      by_cases hp : p = 1
      · have hpI : (p : Int) = 1 := by omega
        have HRR : Hid (R1 = (cut lL k ++ [nn], coin, true, -1)) := by show _ = _; rw [HR1.out, if_pos hpI]
        obtain ⟨g, rfl⟩ := HGA.out (by omega)
        have HQ0 : Hid (∀ w', Below WA.heap.size WA w' → ARow w' (.slice (some ⟨g, 0, none⟩) ln cr) lL) := fun w' b => (HRA.out w' b).arow
        have z1 : (k : Int) + 1 ≤ (ln : Int) := by omega
        have z2 : (ln : Int) ≤ (cr : Int) := by omega
        have z3 : (k : Int) ≤ (cr : Int) := by omega
        have z4 : (k : Int) + 1 ≤ (cr : Int) := by omega
        have z5 : (0 : Int) ≤ (k : Int) + 1 := by omega
        clear HR1 hp
        go_wp2
        by_cases hcr : cr = k + 1
        · subst hcr
          generalize hWX : (WA).drew = WX
          have BX : Below (WA).heap.size (WA) WX := by rw [← hWX]; exact below_drew (Below.refl _ _)
          have HQ := Hid.mk (HQ0.out _ BX)
          refine wp_region_held_drew (S := fun _ => True) (by kernel_rfl) trivial (fun hH => ?_)
          rw [hWX]
          clear hWX
          refine wpAnyH_take (i := 1) (oi := { dst := some 51, op := Op.move (Operand.tmp 7), type := 23, pos := "l15_memory.go:122", after := #[], guard := none }) (v := .slice (some ⟨g, 0, none⟩) ln (k + 1)) rfl (by kernel_rfl) (by kernel_rfl) (by kernel_rfl) (fun _ _ _ h => h) (Or.inl ⟨by rfl, fun w0 hSw => by (go_simp)⟩) hH ?_
          simp only [Act.put, List.setIfInBounds_toArray, List.set_cons_zero, List.set_cons_succ]
          refine wpAnyH_take (i := 2) (oi := { dst := some 52, op := Op.move (Operand.tmp 8), type := 3, pos := "l15_memory.go:122", after := #[], guard := none }) (v := .int .i64 ((k : Nat) : Int)) rfl (by kernel_rfl) (by kernel_rfl) (by kernel_rfl) (fun _ _ _ h => h) (Or.inl ⟨by rfl, fun w0 hSw => by (go_simp)⟩) hH ?_
          simp only [Act.put, List.setIfInBounds_toArray, List.set_cons_zero, List.set_cons_succ]
          refine wpAnyH_take (i := 3) (oi := { dst := some 53, op := Op.slice 23 (Operand.tmp 51) none (some (Operand.tmp 52)) none, type := 23, pos := "l15_memory.go:122", after := #[{ on := 1, ground := Ground.data }, { on := 2, ground := Ground.data }], guard := none }) (v := .slice (some ⟨g, 0, none⟩) k (k + 1)) rfl (by kernel_rfl) (by kernel_rfl) (by kernel_rfl) (fun _ _ _ h => h) (Or.inl ⟨by rfl, fun w0 hSw => by (go_simp <;> first | (intro h; exfalso; omega) | exact (IntKind.wrap_i64 _).trans (by omega) | omega)⟩) hH ?_
          simp only [Act.put, List.setIfInBounds_toArray, List.set_cons_zero, List.set_cons_succ]
          refine wpAnyH_take (i := 5) (oi := { dst := some 55, op := Op.move (Operand.tmp 7), type := 23, pos := "l15_memory.go:122", after := #[], guard := none }) (v := .slice (some ⟨g, 0, none⟩) ln (k + 1)) rfl (by kernel_rfl) (by kernel_rfl) (by kernel_rfl) (fun _ _ _ h => h) (Or.inl ⟨by rfl, fun w0 hSw => by (go_simp)⟩) hH ?_
          simp only [Act.put, List.setIfInBounds_toArray, List.set_cons_zero, List.set_cons_succ]
          refine wpAnyH_take (i := 6) (oi := { dst := some 56, op := Op.move (Operand.tmp 8), type := 3, pos := "l15_memory.go:122", after := #[], guard := none }) (v := .int .i64 ((k : Nat) : Int)) rfl (by kernel_rfl) (by kernel_rfl) (by kernel_rfl) (fun _ _ _ h => h) (Or.inl ⟨by rfl, fun w0 hSw => by (go_simp)⟩) hH ?_
          simp only [Act.put, List.setIfInBounds_toArray, List.set_cons_zero, List.set_cons_succ]
          refine wpAnyH_take (i := 7) (oi := { dst := some 57, op := Op.binOp BinOp.add 3 (Operand.tmp 56) (Operand.const (Value.int IntKind.i64 1)) 3, type := 3, pos := "l15_memory.go:122", after := #[{ on := 6, ground := Ground.data }], guard := none }) (v := .int .i64 (((k : Nat) : Int) + 1)) rfl (by kernel_rfl) (by kernel_rfl) (by kernel_rfl) (fun _ _ _ h => h) (Or.inl ⟨by rfl, fun w0 hSw => by (go_simp <;> first | (intro h; exfalso; omega) | exact (IntKind.wrap_i64 _).trans (by omega) | omega)⟩) hH ?_
          simp only [Act.put, List.setIfInBounds_toArray, List.set_cons_zero, List.set_cons_succ]
          refine wpAnyH_take (i := 8) (oi := { dst := some 58, op := Op.slice 23 (Operand.tmp 55) (some (Operand.tmp 57)) none none, type := 23, pos := "l15_memory.go:122", after := #[{ on := 5, ground := Ground.data }, { on := 7, ground := Ground.data }], guard := none }) (v := .slice (some ⟨g, 0, none⟩) 0 0) rfl (by kernel_rfl) (by kernel_rfl) (by kernel_rfl) (fun _ _ _ h => h) (Or.inl ⟨by rfl, fun w0 hSw => by (go_simp <;> first | (intro h; exfalso; omega) | exact (IntKind.wrap_i64 _).trans (by omega) | omega)⟩) hH ?_
          simp only [Act.put, List.setIfInBounds_toArray, List.set_cons_zero, List.set_cons_succ]
          refine wpAnyH_ready (rs := [0]) (by kernel_rfl) (by simp) ?_
          refine (AllReadyH.cons (o := { dst := some 50, op := Op.buildSlice 23 0 #[], type := 23, pos := "l15_memory.go:122", after := #[], guard := none }) rfl (fun K hK => ?_) AllReadyH.nil)
          refine step_val (.slice (some ⟨WX.heap.size, 0, none⟩) 0 0) (WX.alloc (.cells #[] 3)) (by rfl) (by go_simp) ?_
          simp only [Act.put, List.setIfInBounds_toArray, List.set_cons_zero, List.set_cons_succ]
          refine hK.out _ _ trivial (fun hH' => ?_)
          clear hK K
          replace hH := hH'
          clear hH'
          have R1 := Ri.empty WX.heap.size WX (Nat.le_refl _)
          have Q1 := HQ.out.next (alloc_b (o := .cells #[] 3))
          have B1 : Below WX.heap.size WX (WX.alloc (.cells #[] 3)) := alloc_b
          refine wpAnyH_ready (rs := [4]) (by kernel_rfl) (by simp) ?_
          refine (AllReadyH.cons (o := { dst := some 54, op := Op.call { callee := Callee.builtin Builtin.append, args := #[Operand.tmp 50, Operand.tmp 53], argTypes := #[23, 23] }, type := 23, pos := "l15_memory.go:122", after := #[{ on := 0, ground := Ground.data }, { on := 3, ground := Ground.data }], guard := none }) rfl (fun K hK => ?_) AllReadyH.nil)
          obtain ⟨v2, w2, hr2, R2, G2, _⟩ := run_append_ri (P := Try.prog) 23 Try.underlying23 hi3 hz30 hz31 hz32 R1 (Q1.take k (Nat.le_of_lt hk) (k + 1)) (by have h9 := HLN.out; first | (simp; done) | (simp; omega))
          refine step_app (.tmp 50) (.tmp 53) 23 _ _ v2 w2 (by rfl) (by rfl) (by rfl) (by rfl) hr2 ?_
          simp only [Act.put, List.setIfInBounds_toArray, List.set_cons_zero, List.set_cons_succ]
          refine hK.out _ _ trivial (fun hH' => ?_)
          clear hK K
          replace hH := hH'
          clear hH'
          have B2 : Below WX.heap.size WX w2 := B1.grown G2 B1.size (fun g hg => (R1.lt g hg).1)
          have Q2 := ARow.none w2 (some ⟨g, 0, none⟩) 0 (L := lL.drop (k + 1)) (List.drop_eq_nil_of_le (by have := HLN.out; omega))
          clear hr2 G2 R1 Q1 B1
          refine wpAnyH_ready (rs := [9]) (by kernel_rfl) (by simp) ?_
          refine (AllReadyH.cons (o := { dst := some 59, op := Op.call { callee := Callee.builtin Builtin.append, args := #[Operand.tmp 54, Operand.tmp 58], argTypes := #[23, 23] }, type := 23, pos := "l15_memory.go:122", after := #[{ on := 4, ground := Ground.data }, { on := 8, ground := Ground.data }, { on := 4, ground := Ground.chain }], guard := none }) rfl (fun K hK => ?_) AllReadyH.nil)
          obtain ⟨v3, w3, hr3, R3, G3, _⟩ := run_append_ri (P := Try.prog) 23 Try.underlying23 hi3 hz30 hz31 hz32 R2 Q2 (by have h9 := HLN.out; first | (simp; done) | (simp; omega))
          refine step_app (.tmp 54) (.tmp 58) 23 _ _ v3 w3 (by rfl) (by rfl) (by rfl) (by rfl) hr3 ?_
          simp only [Act.put, List.setIfInBounds_toArray, List.set_cons_zero, List.set_cons_succ]
          refine hK.out _ _ trivial (fun hH' => ?_)
          clear hK K
          replace hH := hH'
          clear hH'
          have B3 : Below WX.heap.size WX w3 := B2.grown G3 B2.size (fun g hg => (R2.lt g hg).1)
          have R3c : Ri WX.heap.size w3 v3 (cut lL k) := by have h := R3; rw [List.nil_append] at h; exact h
          clear hr3 G3 R2 Q2 B2 R3
          refine wpAnyH_take (i := 10) (oi := { dst := some 7, op := Op.assign (Operand.tmp 59), type := 23, pos := "l15_memory.go:122", after := #[{ on := 9, ground := Ground.data }, { on := 9, ground := Ground.chain }, { on := 0, ground := Ground.phase }, { on := 1, ground := Ground.phase }, { on := 2, ground := Ground.phase }, { on := 3, ground := Ground.phase }, { on := 4, ground := Ground.phase }, { on := 5, ground := Ground.phase }, { on := 6, ground := Ground.phase }, { on := 7, ground := Ground.phase }, { on := 8, ground := Ground.phase }, { on := 9, ground := Ground.phase }], guard := none }) (v := v3) rfl (by kernel_rfl) (by kernel_rfl) (by kernel_rfl) (fun _ _ _ h => h) (Or.inl ⟨by rfl, fun w0 hSw => by (go_simp)⟩) hH ?_
          simp only [Act.put, List.setIfInBounds_toArray, List.set_cons_zero, List.set_cons_succ]
          refine wpAnyH_done (by kernel_rfl) ?_ _
          have FX3 : Fr cb gm m U U w w3 := (FA).trans (Fr.ofBelow (BX.trans (B3.mono BX.size)))
          have KX3 := (KA).next (BX.trans (B3.mono BX.size))
          have CX3 := (CA).next (BX.trans (B3.mono BX.size))
          have HSW : Hid (w.heap.size ≤ WX.heap.size) := by have h1 := (FA).size; have h2 := BX.size; show _ ≤ _; omega
          have HVW : Hid (∀ q, v3.ownBlock = some q → (U s).ownBlock = some q ∨ w.heap.size ≤ q) := fun q hq => Or.inr (Nat.le_trans HSW.out (R3c.lt q hq).1)
          have HLM : Hid ((cut lL k).length ≤ 1000) := by have h := cut_len lL k (by have := HLN.out; omega); have := HLN.out; show _ ≤ _; omega
          have RX3 := R3c.up (B := B) (Nat.le_trans KH.out.bg (Nat.le_of_lt (Nat.lt_of_lt_of_le KH.out.hg HSW.out)))
          clear hH B3 R3c
          go_wp2
          generalize hWW : (w3).drew = WY
          have bdy : Below (w3).heap.size (w3) WY := by rw [← hWW]; exact below_drew (Below.refl _ _)
          have KY := (KX3).next bdy
          have CY := (CX3).next bdy
          have RY := (RX3).next bdy
          have F0 : Hid (Fr cb gm m U U w WY) := (FX3).trans (Fr.ofBelow bdy)
          clear bdy
          clear KX3 CX3 RX3 FX3
          refine wp_region_held_drew (S := (fun u => u.cell? ⟨cb, 4, none⟩ = some (.slice (some ⟨gm, 0, none⟩) m cp) ∧ u.cell? ⟨cb, 0, none⟩ = some (.int .i64 (m : Int)))) (by kernel_rfl) (by rw [hWW]; exact ⟨CY.c4, CY.c0⟩) (fun hH => ?_)
          rw [hWW] at hH ⊢
          clear hWW
          refine wpAnyH_take (i := 0) (oi := { dst := some 60, op := Op.move (Operand.tmp 0), type := 82, pos := "l15_memory.go:123", after := #[], guard := none }) (v := .pointer (some ⟨cb, 0, none⟩)) rfl (by kernel_rfl) (by kernel_rfl) (by kernel_rfl) (fun _ _ _ h => h) (Or.inl ⟨by rfl, fun w0 hSw => by (go_simp)⟩) hH ?_
          simp only [Act.put, List.setIfInBounds_toArray, List.set_cons_zero, List.set_cons_succ]
          refine wpAnyH_take (i := 1) (oi := { dst := some 61, op := Op.nilCheck (Operand.tmp 60), type := 0, pos := "l15_memory.go:123", after := #[{ on := 0, ground := Ground.data }], guard := none }) (v := .pointer (some ⟨cb, 0, none⟩)) rfl (by kernel_rfl) (by kernel_rfl) (by kernel_rfl) (fun _ _ _ h => h) (Or.inl ⟨by rfl, fun w0 hSw => by (go_simp)⟩) hH ?_
          simp only [Act.put, List.setIfInBounds_toArray, List.set_cons_zero, List.set_cons_succ]
          refine wpAnyH_take (i := 2) (oi := { dst := some 62, op := Op.fieldAddr 42 (Operand.tmp 61) 4, type := 0, pos := "l15_memory.go:123", after := #[{ on := 1, ground := Ground.data }], guard := none }) (v := .pointer (some ⟨cb, 4, none⟩)) rfl (by kernel_rfl) (by kernel_rfl) (by kernel_rfl) (fun _ _ _ h => h) (Or.inl ⟨by rfl, fun w0 hSw => by (go_simp)⟩) hH ?_
          simp only [Act.put, List.setIfInBounds_toArray, List.set_cons_zero, List.set_cons_succ]
          refine wpAnyH_take (i := 3) (oi := { dst := some 63, op := Op.load 40 (Operand.tmp 62), type := 40, pos := "l15_memory.go:123", after := #[{ on := 2, ground := Ground.data }], guard := none }) (v := .slice (some ⟨gm, 0, none⟩) m cp) rfl (by kernel_rfl) (by kernel_rfl) (by kernel_rfl) (fun _ _ _ h => h) (Or.inl ⟨by rfl, fun w0 hSw => by ((have e4 := hSw.1); go_simp)⟩) hH ?_
          simp only [Act.put, List.setIfInBounds_toArray, List.set_cons_zero, List.set_cons_succ]
          refine wpAnyH_take (i := 4) (oi := { dst := some 64, op := Op.move (Operand.tmp 6), type := 3, pos := "l15_memory.go:123", after := #[], guard := none }) (v := .int .i64 nn) rfl (by kernel_rfl) (by kernel_rfl) (by kernel_rfl) (fun _ _ _ h => h) (Or.inl ⟨by rfl, fun w0 hSw => by (go_simp)⟩) hH ?_
          simp only [Act.put, List.setIfInBounds_toArray, List.set_cons_zero, List.set_cons_succ]
          refine wpAnyH_take (i := 5) (oi := { dst := some 65, op := Op.move (Operand.tmp 0), type := 82, pos := "l15_memory.go:123", after := #[], guard := none }) (v := .pointer (some ⟨cb, 0, none⟩)) rfl (by kernel_rfl) (by kernel_rfl) (by kernel_rfl) (fun _ _ _ h => h) (Or.inl ⟨by rfl, fun w0 hSw => by (go_simp)⟩) hH ?_
          simp only [Act.put, List.setIfInBounds_toArray, List.set_cons_zero, List.set_cons_succ]
          refine wpAnyH_take (i := 6) (oi := { dst := some 66, op := Op.nilCheck (Operand.tmp 65), type := 0, pos := "l15_memory.go:123", after := #[{ on := 5, ground := Ground.data }], guard := none }) (v := .pointer (some ⟨cb, 0, none⟩)) rfl (by kernel_rfl) (by kernel_rfl) (by kernel_rfl) (fun _ _ _ h => h) (Or.inl ⟨by rfl, fun w0 hSw => by (go_simp)⟩) hH ?_
          simp only [Act.put, List.setIfInBounds_toArray, List.set_cons_zero, List.set_cons_succ]
          refine wpAnyH_take (i := 7) (oi := { dst := some 67, op := Op.fieldAddr 42 (Operand.tmp 66) 0, type := 0, pos := "l15_memory.go:123", after := #[{ on := 6, ground := Ground.data }], guard := none }) (v := .pointer (some ⟨cb, 0, none⟩)) rfl (by kernel_rfl) (by kernel_rfl) (by kernel_rfl) (fun _ _ _ h => h) (Or.inl ⟨by rfl, fun w0 hSw => by (go_simp)⟩) hH ?_
          simp only [Act.put, List.setIfInBounds_toArray, List.set_cons_zero, List.set_cons_succ]
          refine wpAnyH_take (i := 8) (oi := { dst := some 68, op := Op.load 3 (Operand.tmp 67), type := 3, pos := "l15_memory.go:123", after := #[{ on := 7, ground := Ground.data }], guard := none }) (v := .int .i64 (m : Int)) rfl (by kernel_rfl) (by kernel_rfl) (by kernel_rfl) (fun _ _ _ h => h) (Or.inl ⟨by rfl, fun w0 hSw => by ((have e4 := hSw.2); go_simp)⟩) hH ?_
          simp only [Act.put, List.setIfInBounds_toArray, List.set_cons_zero, List.set_cons_succ]
          refine wpAnyH_take (i := 9) (oi := { dst := some 69, op := Op.binOp BinOp.rem 3 (Operand.tmp 64) (Operand.tmp 68) 3, type := 3, pos := "l15_memory.go:123", after := #[{ on := 4, ground := Ground.data }, { on := 8, ground := Ground.data }], guard := none }) (v := .int .i64 (s : Int)) rfl (by kernel_rfl) (by kernel_rfl) (by kernel_rfl) (fun _ _ _ h => h) (Or.inl ⟨by rfl, fun w0 hSw => by (go_simp <;> first | (intro h; exfalso; omega) | exact (IntKind.wrap_i64 _).trans (by omega) | omega)⟩) hH ?_
          simp only [Act.put, List.setIfInBounds_toArray, List.set_cons_zero, List.set_cons_succ]
          refine wpAnyH_take (i := 10) (oi := { dst := some 70, op := Op.move (Operand.tmp 7), type := 23, pos := "l15_memory.go:123", after := #[], guard := none }) (v := v3) rfl (by kernel_rfl) (by kernel_rfl) (by kernel_rfl) (fun _ _ _ h => h) (Or.inl ⟨by rfl, fun w0 hSw => by (go_simp)⟩) hH ?_
          simp only [Act.put, List.setIfInBounds_toArray, List.set_cons_zero, List.set_cons_succ]
          refine wpAnyH_take (i := 11) (oi := { dst := some 71, op := Op.move (Operand.tmp 6), type := 3, pos := "l15_memory.go:123", after := #[], guard := none }) (v := .int .i64 nn) rfl (by kernel_rfl) (by kernel_rfl) (by kernel_rfl) (fun _ _ _ h => h) (Or.inl ⟨by rfl, fun w0 hSw => by (go_simp)⟩) hH ?_
          simp only [Act.put, List.setIfInBounds_toArray, List.set_cons_zero, List.set_cons_succ]
          refine wpAnyH_ready (rs := [12]) (by kernel_rfl) (by simp) ?_
          refine (AllReadyH.cons (o := { dst := some 72, op := Op.buildSlice 23 1 #[(0, Operand.tmp 71)], type := 23, pos := "l15_memory.go:123", after := #[{ on := 11, ground := Ground.data }], guard := none }) rfl (fun K hK => ?_) AllReadyH.nil)
          refine step_val (.slice (some ⟨WY.heap.size, 0, none⟩) 1 1) (WY.alloc (.cells #[.int .i64 nn] 3)) (by rfl) (by go_simp) ?_
          simp only [Act.put, List.setIfInBounds_toArray, List.set_cons_zero, List.set_cons_succ]
          refine hK.out _ _ ⟨cell_nx CY.c4 alloc_b, cell_nx CY.c0 alloc_b⟩ (fun hH' => ?_)
          clear hK K
          replace hH := hH'
          clear hH'
          have V1 := RY.next (alloc_b (o := .cells #[.int .i64 nn] 3))
          refine wpAnyH_ready (rs := [13]) (by kernel_rfl) (by simp) ?_
          refine (AllReadyH.cons (o := { dst := some 73, op := Op.call { callee := Callee.builtin Builtin.append, args := #[Operand.tmp 70, Operand.tmp 72], argTypes := #[23, 23] }, type := 23, pos := "l15_memory.go:123", after := #[{ on := 10, ground := Ground.data }, { on := 12, ground := Ground.data }], guard := none }) rfl (fun K hK => ?_) AllReadyH.nil)
          obtain ⟨v4, w4, hr4, R4, G4, A4⟩ := run_append_ri (P := Try.prog) 23 Try.underlying23 hi3 hz30 hz31 hz32 V1 (ARow.one WY nn) (by have := HLM.out; simp; omega)
          obtain ⟨cg4, fg4, hb4, sz4, hb5, KN, FN⟩ := Kx.laid KH.out F0.out KY hs HVW.out (fun q hq => (RY.lt q hq).2) G4 A4 R4
          have C4 := CY.block hb4 sz4
          have CN := CY.block hb5 (by simpa using sz4)
          refine step_app (.tmp 70) (.tmp 72) 23 _ _ v4 w4 (by rfl) (by rfl) (by rfl) (by rfl) hr4 ?_
          simp only [Act.put, List.setIfInBounds_toArray, List.set_cons_zero, List.set_cons_succ]
          refine hK.out _ _ ⟨C4.c4, C4.c0⟩ (fun hH' => ?_)
          clear hK K
          replace hH := hH'
          clear hH' hr4 V1 G4 A4
          refine wpAnyH_take (i := 14) (oi := { dst := some 74, op := Op.indexAddr 40 (Operand.tmp 63) (Operand.tmp 69), type := 0, pos := "l15_memory.go:123", after := #[{ on := 3, ground := Ground.data }, { on := 9, ground := Ground.data }, { on := 0, ground := Ground.phase }, { on := 1, ground := Ground.phase }, { on := 2, ground := Ground.phase }, { on := 3, ground := Ground.phase }, { on := 4, ground := Ground.phase }, { on := 5, ground := Ground.phase }, { on := 6, ground := Ground.phase }, { on := 7, ground := Ground.phase }, { on := 8, ground := Ground.phase }, { on := 9, ground := Ground.phase }, { on := 10, ground := Ground.phase }, { on := 11, ground := Ground.phase }, { on := 12, ground := Ground.phase }, { on := 13, ground := Ground.phase }], guard := none }) (v := .pointer (some ⟨gm, s, none⟩)) rfl (by kernel_rfl) (by kernel_rfl) (by kernel_rfl) (fun _ _ _ h => h) (Or.inl ⟨by rfl, fun w0 hSw => by (go_simp)⟩) hH ?_
          simp only [Act.put, List.setIfInBounds_toArray, List.set_cons_zero, List.set_cons_succ]
          refine wpAnyH_ready (rs := [15]) (by kernel_rfl) (by simp) ?_
          refine (AllReadyH.cons (o := { dst := none, op := Op.store 23 (Operand.tmp 74) (Operand.tmp 73), type := 0, pos := "l15_memory.go:123", after := #[{ on := 14, ground := Ground.data }, { on := 13, ground := Ground.data }, { on := 13, ground := Ground.chain }, { on := 0, ground := Ground.phase }, { on := 1, ground := Ground.phase }, { on := 2, ground := Ground.phase }, { on := 3, ground := Ground.phase }, { on := 4, ground := Ground.phase }, { on := 5, ground := Ground.phase }, { on := 6, ground := Ground.phase }, { on := 7, ground := Ground.phase }, { on := 8, ground := Ground.phase }, { on := 9, ground := Ground.phase }, { on := 10, ground := Ground.phase }, { on := 11, ground := Ground.phase }, { on := 12, ground := Ground.phase }, { on := 13, ground := Ground.phase }], guard := none }) rfl (fun K hK => ?_) AllReadyH.nil)
          refine step_skip (w4.setCell ⟨gm, s, none⟩ v4) (by rfl) (by obtain ⟨a4, k4, hv4, _⟩ := R4.arow; rw [hv4]; go_simp) ?_
          refine hK.out _ _ ⟨CN.c4, CN.c0⟩ (fun hH' => ?_)
          clear hK K hH' hH
          refine wpAnyH_done (by kernel_rfl) ?_ _
          go_wp2
          go_ret2
          exact ⟨by rw [hH2.out, hO2.out, HRR.out]; rfl, by rw [hC2.out, HRR.out]; exact CN, _, by rw [hL2.out, HRR.out]; exact KN, FN⟩
        · generalize hWX : (WA).drew = WX
          have BX : Below (WA).heap.size (WA) WX := by rw [← hWX]; exact below_drew (Below.refl _ _)
          have HQ := Hid.mk (HQ0.out _ BX)
          refine wp_region_held_drew (S := fun _ => True) (by kernel_rfl) trivial (fun hH => ?_)
          rw [hWX]
          clear hWX
          refine wpAnyH_take (i := 1) (oi := { dst := some 51, op := Op.move (Operand.tmp 7), type := 23, pos := "l15_memory.go:122", after := #[], guard := none }) (v := .slice (some ⟨g, 0, none⟩) ln cr) rfl (by kernel_rfl) (by kernel_rfl) (by kernel_rfl) (fun _ _ _ h => h) (Or.inl ⟨by rfl, fun w0 hSw => by (go_simp)⟩) hH ?_
          simp only [Act.put, List.setIfInBounds_toArray, List.set_cons_zero, List.set_cons_succ]
          refine wpAnyH_take (i := 2) (oi := { dst := some 52, op := Op.move (Operand.tmp 8), type := 3, pos := "l15_memory.go:122", after := #[], guard := none }) (v := .int .i64 ((k : Nat) : Int)) rfl (by kernel_rfl) (by kernel_rfl) (by kernel_rfl) (fun _ _ _ h => h) (Or.inl ⟨by rfl, fun w0 hSw => by (go_simp)⟩) hH ?_
          simp only [Act.put, List.setIfInBounds_toArray, List.set_cons_zero, List.set_cons_succ]
          refine wpAnyH_take (i := 3) (oi := { dst := some 53, op := Op.slice 23 (Operand.tmp 51) none (some (Operand.tmp 52)) none, type := 23, pos := "l15_memory.go:122", after := #[{ on := 1, ground := Ground.data }, { on := 2, ground := Ground.data }], guard := none }) (v := .slice (some ⟨g, 0, none⟩) k cr) rfl (by kernel_rfl) (by kernel_rfl) (by kernel_rfl) (fun _ _ _ h => h) (Or.inl ⟨by rfl, fun w0 hSw => by (go_simp <;> first | (intro h; exfalso; omega) | exact (IntKind.wrap_i64 _).trans (by omega) | omega)⟩) hH ?_
          simp only [Act.put, List.setIfInBounds_toArray, List.set_cons_zero, List.set_cons_succ]
          refine wpAnyH_take (i := 5) (oi := { dst := some 55, op := Op.move (Operand.tmp 7), type := 23, pos := "l15_memory.go:122", after := #[], guard := none }) (v := .slice (some ⟨g, 0, none⟩) ln cr) rfl (by kernel_rfl) (by kernel_rfl) (by kernel_rfl) (fun _ _ _ h => h) (Or.inl ⟨by rfl, fun w0 hSw => by (go_simp)⟩) hH ?_
          simp only [Act.put, List.setIfInBounds_toArray, List.set_cons_zero, List.set_cons_succ]
          refine wpAnyH_take (i := 6) (oi := { dst := some 56, op := Op.move (Operand.tmp 8), type := 3, pos := "l15_memory.go:122", after := #[], guard := none }) (v := .int .i64 ((k : Nat) : Int)) rfl (by kernel_rfl) (by kernel_rfl) (by kernel_rfl) (fun _ _ _ h => h) (Or.inl ⟨by rfl, fun w0 hSw => by (go_simp)⟩) hH ?_
          simp only [Act.put, List.setIfInBounds_toArray, List.set_cons_zero, List.set_cons_succ]
          refine wpAnyH_take (i := 7) (oi := { dst := some 57, op := Op.binOp BinOp.add 3 (Operand.tmp 56) (Operand.const (Value.int IntKind.i64 1)) 3, type := 3, pos := "l15_memory.go:122", after := #[{ on := 6, ground := Ground.data }], guard := none }) (v := .int .i64 (((k : Nat) : Int) + 1)) rfl (by kernel_rfl) (by kernel_rfl) (by kernel_rfl) (fun _ _ _ h => h) (Or.inl ⟨by rfl, fun w0 hSw => by (go_simp <;> first | (intro h; exfalso; omega) | exact (IntKind.wrap_i64 _).trans (by omega) | omega)⟩) hH ?_
          simp only [Act.put, List.setIfInBounds_toArray, List.set_cons_zero, List.set_cons_succ]
          refine wpAnyH_take (i := 8) (oi := { dst := some 58, op := Op.slice 23 (Operand.tmp 55) (some (Operand.tmp 57)) none none, type := 23, pos := "l15_memory.go:122", after := #[{ on := 5, ground := Ground.data }, { on := 7, ground := Ground.data }], guard := none }) (v := .slice (some ⟨g, k + 1, none⟩) (ln - (k + 1)) (cr - (k + 1))) rfl (by kernel_rfl) (by kernel_rfl) (by kernel_rfl) (fun _ _ _ h => h) (Or.inl ⟨by rfl, fun w0 hSw => by (go_simp <;> first | (intro h; exfalso; omega) | exact (IntKind.wrap_i64 _).trans (by omega) | omega)⟩) hH ?_
          simp only [Act.put, List.setIfInBounds_toArray, List.set_cons_zero, List.set_cons_succ]
          refine wpAnyH_ready (rs := [0]) (by kernel_rfl) (by simp) ?_
          refine (AllReadyH.cons (o := { dst := some 50, op := Op.buildSlice 23 0 #[], type := 23, pos := "l15_memory.go:122", after := #[], guard := none }) rfl (fun K hK => ?_) AllReadyH.nil)
          refine step_val (.slice (some ⟨WX.heap.size, 0, none⟩) 0 0) (WX.alloc (.cells #[] 3)) (by rfl) (by go_simp) ?_
          simp only [Act.put, List.setIfInBounds_toArray, List.set_cons_zero, List.set_cons_succ]
          refine hK.out _ _ trivial (fun hH' => ?_)
          clear hK K
          replace hH := hH'
          clear hH'
          have R1 := Ri.empty WX.heap.size WX (Nat.le_refl _)
          have Q1 := HQ.out.next (alloc_b (o := .cells #[] 3))
          have B1 : Below WX.heap.size WX (WX.alloc (.cells #[] 3)) := alloc_b
          refine wpAnyH_ready (rs := [4]) (by kernel_rfl) (by simp) ?_
          refine (AllReadyH.cons (o := { dst := some 54, op := Op.call { callee := Callee.builtin Builtin.append, args := #[Operand.tmp 50, Operand.tmp 53], argTypes := #[23, 23] }, type := 23, pos := "l15_memory.go:122", after := #[{ on := 0, ground := Ground.data }, { on := 3, ground := Ground.data }], guard := none }) rfl (fun K hK => ?_) AllReadyH.nil)
          obtain ⟨v2, w2, hr2, R2, G2, _⟩ := run_append_ri (P := Try.prog) 23 Try.underlying23 hi3 hz30 hz31 hz32 R1 (Q1.take k (Nat.le_of_lt hk) cr) (by have h9 := HLN.out; first | (simp; done) | (simp; omega))
          refine step_app (.tmp 50) (.tmp 53) 23 _ _ v2 w2 (by rfl) (by rfl) (by rfl) (by rfl) hr2 ?_
          simp only [Act.put, List.setIfInBounds_toArray, List.set_cons_zero, List.set_cons_succ]
          refine hK.out _ _ trivial (fun hH' => ?_)
          clear hK K
          replace hH := hH'
          clear hH'
          have B2 : Below WX.heap.size WX w2 := B1.grown G2 B1.size (fun g hg => (R1.lt g hg).1)
          have Q2 := (show ARow w2 (.slice (some ⟨g, k + 1, none⟩) (ln - (k + 1)) (cr - (k + 1))) (lL.drop (k + 1)) by have h := (HQ.out.next B2).drop (k + 1) (cr - (k + 1)); rwa [Nat.zero_add] at h)
          clear hr2 G2 R1 Q1 B1
          refine wpAnyH_ready (rs := [9]) (by kernel_rfl) (by simp) ?_
          refine (AllReadyH.cons (o := { dst := some 59, op := Op.call { callee := Callee.builtin Builtin.append, args := #[Operand.tmp 54, Operand.tmp 58], argTypes := #[23, 23] }, type := 23, pos := "l15_memory.go:122", after := #[{ on := 4, ground := Ground.data }, { on := 8, ground := Ground.data }, { on := 4, ground := Ground.chain }], guard := none }) rfl (fun K hK => ?_) AllReadyH.nil)
          obtain ⟨v3, w3, hr3, R3, G3, _⟩ := run_append_ri (P := Try.prog) 23 Try.underlying23 hi3 hz30 hz31 hz32 R2 Q2 (by have h9 := HLN.out; first | (simp; done) | (simp; omega))
          refine step_app (.tmp 54) (.tmp 58) 23 _ _ v3 w3 (by rfl) (by rfl) (by rfl) (by rfl) hr3 ?_
          simp only [Act.put, List.setIfInBounds_toArray, List.set_cons_zero, List.set_cons_succ]
          refine hK.out _ _ trivial (fun hH' => ?_)
          clear hK K
          replace hH := hH'
          clear hH'
          have B3 : Below WX.heap.size WX w3 := B2.grown G3 B2.size (fun g hg => (R2.lt g hg).1)
          have R3c : Ri WX.heap.size w3 v3 (cut lL k) := by have h := R3; rw [List.nil_append] at h; exact h
          clear hr3 G3 R2 Q2 B2 R3
          refine wpAnyH_take (i := 10) (oi := { dst := some 7, op := Op.assign (Operand.tmp 59), type := 23, pos := "l15_memory.go:122", after := #[{ on := 9, ground := Ground.data }, { on := 9, ground := Ground.chain }, { on := 0, ground := Ground.phase }, { on := 1, ground := Ground.phase }, { on := 2, ground := Ground.phase }, { on := 3, ground := Ground.phase }, { on := 4, ground := Ground.phase }, { on := 5, ground := Ground.phase }, { on := 6, ground := Ground.phase }, { on := 7, ground := Ground.phase }, { on := 8, ground := Ground.phase }, { on := 9, ground := Ground.phase }], guard := none }) (v := v3) rfl (by kernel_rfl) (by kernel_rfl) (by kernel_rfl) (fun _ _ _ h => h) (Or.inl ⟨by rfl, fun w0 hSw => by (go_simp)⟩) hH ?_
          simp only [Act.put, List.setIfInBounds_toArray, List.set_cons_zero, List.set_cons_succ]
          refine wpAnyH_done (by kernel_rfl) ?_ _
          have FX3 : Fr cb gm m U U w w3 := (FA).trans (Fr.ofBelow (BX.trans (B3.mono BX.size)))
          have KX3 := (KA).next (BX.trans (B3.mono BX.size))
          have CX3 := (CA).next (BX.trans (B3.mono BX.size))
          have HSW : Hid (w.heap.size ≤ WX.heap.size) := by have h1 := (FA).size; have h2 := BX.size; show _ ≤ _; omega
          have HVW : Hid (∀ q, v3.ownBlock = some q → (U s).ownBlock = some q ∨ w.heap.size ≤ q) := fun q hq => Or.inr (Nat.le_trans HSW.out (R3c.lt q hq).1)
          have HLM : Hid ((cut lL k).length ≤ 1000) := by have h := cut_len lL k (by have := HLN.out; omega); have := HLN.out; show _ ≤ _; omega
          have RX3 := R3c.up (B := B) (Nat.le_trans KH.out.bg (Nat.le_of_lt (Nat.lt_of_lt_of_le KH.out.hg HSW.out)))
          clear hH B3 R3c
          go_wp2
          generalize hWW : (w3).drew = WY
          have bdy : Below (w3).heap.size (w3) WY := by rw [← hWW]; exact below_drew (Below.refl _ _)
          have KY := (KX3).next bdy
          have CY := (CX3).next bdy
          have RY := (RX3).next bdy
          have F0 : Hid (Fr cb gm m U U w WY) := (FX3).trans (Fr.ofBelow bdy)
          clear bdy
          clear KX3 CX3 RX3 FX3
          refine wp_region_held_drew (S := (fun u => u.cell? ⟨cb, 4, none⟩ = some (.slice (some ⟨gm, 0, none⟩) m cp) ∧ u.cell? ⟨cb, 0, none⟩ = some (.int .i64 (m : Int)))) (by kernel_rfl) (by rw [hWW]; exact ⟨CY.c4, CY.c0⟩) (fun hH => ?_)
          rw [hWW] at hH ⊢
          clear hWW
          refine wpAnyH_take (i := 0) (oi := { dst := some 60, op := Op.move (Operand.tmp 0), type := 82, pos := "l15_memory.go:123", after := #[], guard := none }) (v := .pointer (some ⟨cb, 0, none⟩)) rfl (by kernel_rfl) (by kernel_rfl) (by kernel_rfl) (fun _ _ _ h => h) (Or.inl ⟨by rfl, fun w0 hSw => by (go_simp)⟩) hH ?_
          simp only [Act.put, List.setIfInBounds_toArray, List.set_cons_zero, List.set_cons_succ]
          refine wpAnyH_take (i := 1) (oi := { dst := some 61, op := Op.nilCheck (Operand.tmp 60), type := 0, pos := "l15_memory.go:123", after := #[{ on := 0, ground := Ground.data }], guard := none }) (v := .pointer (some ⟨cb, 0, none⟩)) rfl (by kernel_rfl) (by kernel_rfl) (by kernel_rfl) (fun _ _ _ h => h) (Or.inl ⟨by rfl, fun w0 hSw => by (go_simp)⟩) hH ?_
          simp only [Act.put, List.setIfInBounds_toArray, List.set_cons_zero, List.set_cons_succ]
          refine wpAnyH_take (i := 2) (oi := { dst := some 62, op := Op.fieldAddr 42 (Operand.tmp 61) 4, type := 0, pos := "l15_memory.go:123", after := #[{ on := 1, ground := Ground.data }], guard := none }) (v := .pointer (some ⟨cb, 4, none⟩)) rfl (by kernel_rfl) (by kernel_rfl) (by kernel_rfl) (fun _ _ _ h => h) (Or.inl ⟨by rfl, fun w0 hSw => by (go_simp)⟩) hH ?_
          simp only [Act.put, List.setIfInBounds_toArray, List.set_cons_zero, List.set_cons_succ]
          refine wpAnyH_take (i := 3) (oi := { dst := some 63, op := Op.load 40 (Operand.tmp 62), type := 40, pos := "l15_memory.go:123", after := #[{ on := 2, ground := Ground.data }], guard := none }) (v := .slice (some ⟨gm, 0, none⟩) m cp) rfl (by kernel_rfl) (by kernel_rfl) (by kernel_rfl) (fun _ _ _ h => h) (Or.inl ⟨by rfl, fun w0 hSw => by ((have e4 := hSw.1); go_simp)⟩) hH ?_
          simp only [Act.put, List.setIfInBounds_toArray, List.set_cons_zero, List.set_cons_succ]
          refine wpAnyH_take (i := 4) (oi := { dst := some 64, op := Op.move (Operand.tmp 6), type := 3, pos := "l15_memory.go:123", after := #[], guard := none }) (v := .int .i64 nn) rfl (by kernel_rfl) (by kernel_rfl) (by kernel_rfl) (fun _ _ _ h => h) (Or.inl ⟨by rfl, fun w0 hSw => by (go_simp)⟩) hH ?_
          simp only [Act.put, List.setIfInBounds_toArray, List.set_cons_zero, List.set_cons_succ]
          refine wpAnyH_take (i := 5) (oi := { dst := some 65, op := Op.move (Operand.tmp 0), type := 82, pos := "l15_memory.go:123", after := #[], guard := none }) (v := .pointer (some ⟨cb, 0, none⟩)) rfl (by kernel_rfl) (by kernel_rfl) (by kernel_rfl) (fun _ _ _ h => h) (Or.inl ⟨by rfl, fun w0 hSw => by (go_simp)⟩) hH ?_
          simp only [Act.put, List.setIfInBounds_toArray, List.set_cons_zero, List.set_cons_succ]
          refine wpAnyH_take (i := 6) (oi := { dst := some 66, op := Op.nilCheck (Operand.tmp 65), type := 0, pos := "l15_memory.go:123", after := #[{ on := 5, ground := Ground.data }], guard := none }) (v := .pointer (some ⟨cb, 0, none⟩)) rfl (by kernel_rfl) (by kernel_rfl) (by kernel_rfl) (fun _ _ _ h => h) (Or.inl ⟨by rfl, fun w0 hSw => by (go_simp)⟩) hH ?_
          simp only [Act.put, List.setIfInBounds_toArray, List.set_cons_zero, List.set_cons_succ]
          refine wpAnyH_take (i := 7) (oi := { dst := some 67, op := Op.fieldAddr 42 (Operand.tmp 66) 0, type := 0, pos := "l15_memory.go:123", after := #[{ on := 6, ground := Ground.data }], guard := none }) (v := .pointer (some ⟨cb, 0, none⟩)) rfl (by kernel_rfl) (by kernel_rfl) (by kernel_rfl) (fun _ _ _ h => h) (Or.inl ⟨by rfl, fun w0 hSw => by (go_simp)⟩) hH ?_
          simp only [Act.put, List.setIfInBounds_toArray, List.set_cons_zero, List.set_cons_succ]
          refine wpAnyH_take (i := 8) (oi := { dst := some 68, op := Op.load 3 (Operand.tmp 67), type := 3, pos := "l15_memory.go:123", after := #[{ on := 7, ground := Ground.data }], guard := none }) (v := .int .i64 (m : Int)) rfl (by kernel_rfl) (by kernel_rfl) (by kernel_rfl) (fun _ _ _ h => h) (Or.inl ⟨by rfl, fun w0 hSw => by ((have e4 := hSw.2); go_simp)⟩) hH ?_
          simp only [Act.put, List.setIfInBounds_toArray, List.set_cons_zero, List.set_cons_succ]
          refine wpAnyH_take (i := 9) (oi := { dst := some 69, op := Op.binOp BinOp.rem 3 (Operand.tmp 64) (Operand.tmp 68) 3, type := 3, pos := "l15_memory.go:123", after := #[{ on := 4, ground := Ground.data }, { on := 8, ground := Ground.data }], guard := none }) (v := .int .i64 (s : Int)) rfl (by kernel_rfl) (by kernel_rfl) (by kernel_rfl) (fun _ _ _ h => h) (Or.inl ⟨by rfl, fun w0 hSw => by (go_simp <;> first | (intro h; exfalso; omega) | exact (IntKind.wrap_i64 _).trans (by omega) | omega)⟩) hH ?_
          simp only [Act.put, List.setIfInBounds_toArray, List.set_cons_zero, List.set_cons_succ]
          refine wpAnyH_take (i := 10) (oi := { dst := some 70, op := Op.move (Operand.tmp 7), type := 23, pos := "l15_memory.go:123", after := #[], guard := none }) (v := v3) rfl (by kernel_rfl) (by kernel_rfl) (by kernel_rfl) (fun _ _ _ h => h) (Or.inl ⟨by rfl, fun w0 hSw => by (go_simp)⟩) hH ?_
          simp only [Act.put, List.setIfInBounds_toArray, List.set_cons_zero, List.set_cons_succ]
          refine wpAnyH_take (i := 11) (oi := { dst := some 71, op := Op.move (Operand.tmp 6), type := 3, pos := "l15_memory.go:123", after := #[], guard := none }) (v := .int .i64 nn) rfl (by kernel_rfl) (by kernel_rfl) (by kernel_rfl) (fun _ _ _ h => h) (Or.inl ⟨by rfl, fun w0 hSw => by (go_simp)⟩) hH ?_
          simp only [Act.put, List.setIfInBounds_toArray, List.set_cons_zero, List.set_cons_succ]
          refine wpAnyH_ready (rs := [12]) (by kernel_rfl) (by simp) ?_
          refine (AllReadyH.cons (o := { dst := some 72, op := Op.buildSlice 23 1 #[(0, Operand.tmp 71)], type := 23, pos := "l15_memory.go:123", after := #[{ on := 11, ground := Ground.data }], guard := none }) rfl (fun K hK => ?_) AllReadyH.nil)
          refine step_val (.slice (some ⟨WY.heap.size, 0, none⟩) 1 1) (WY.alloc (.cells #[.int .i64 nn] 3)) (by rfl) (by go_simp) ?_
          simp only [Act.put, List.setIfInBounds_toArray, List.set_cons_zero, List.set_cons_succ]
          refine hK.out _ _ ⟨cell_nx CY.c4 alloc_b, cell_nx CY.c0 alloc_b⟩ (fun hH' => ?_)
          clear hK K
          replace hH := hH'
          clear hH'
          have V1 := RY.next (alloc_b (o := .cells #[.int .i64 nn] 3))
          refine wpAnyH_ready (rs := [13]) (by kernel_rfl) (by simp) ?_
          refine (AllReadyH.cons (o := { dst := some 73, op := Op.call { callee := Callee.builtin Builtin.append, args := #[Operand.tmp 70, Operand.tmp 72], argTypes := #[23, 23] }, type := 23, pos := "l15_memory.go:123", after := #[{ on := 10, ground := Ground.data }, { on := 12, ground := Ground.data }], guard := none }) rfl (fun K hK => ?_) AllReadyH.nil)
          obtain ⟨v4, w4, hr4, R4, G4, A4⟩ := run_append_ri (P := Try.prog) 23 Try.underlying23 hi3 hz30 hz31 hz32 V1 (ARow.one WY nn) (by have := HLM.out; simp; omega)
          obtain ⟨cg4, fg4, hb4, sz4, hb5, KN, FN⟩ := Kx.laid KH.out F0.out KY hs HVW.out (fun q hq => (RY.lt q hq).2) G4 A4 R4
          have C4 := CY.block hb4 sz4
          have CN := CY.block hb5 (by simpa using sz4)
          refine step_app (.tmp 70) (.tmp 72) 23 _ _ v4 w4 (by rfl) (by rfl) (by rfl) (by rfl) hr4 ?_
          simp only [Act.put, List.setIfInBounds_toArray, List.set_cons_zero, List.set_cons_succ]
          refine hK.out _ _ ⟨C4.c4, C4.c0⟩ (fun hH' => ?_)
          clear hK K
          replace hH := hH'
          clear hH' hr4 V1 G4 A4
          refine wpAnyH_take (i := 14) (oi := { dst := some 74, op := Op.indexAddr 40 (Operand.tmp 63) (Operand.tmp 69), type := 0, pos := "l15_memory.go:123", after := #[{ on := 3, ground := Ground.data }, { on := 9, ground := Ground.data }, { on := 0, ground := Ground.phase }, { on := 1, ground := Ground.phase }, { on := 2, ground := Ground.phase }, { on := 3, ground := Ground.phase }, { on := 4, ground := Ground.phase }, { on := 5, ground := Ground.phase }, { on := 6, ground := Ground.phase }, { on := 7, ground := Ground.phase }, { on := 8, ground := Ground.phase }, { on := 9, ground := Ground.phase }, { on := 10, ground := Ground.phase }, { on := 11, ground := Ground.phase }, { on := 12, ground := Ground.phase }, { on := 13, ground := Ground.phase }], guard := none }) (v := .pointer (some ⟨gm, s, none⟩)) rfl (by kernel_rfl) (by kernel_rfl) (by kernel_rfl) (fun _ _ _ h => h) (Or.inl ⟨by rfl, fun w0 hSw => by (go_simp)⟩) hH ?_
          simp only [Act.put, List.setIfInBounds_toArray, List.set_cons_zero, List.set_cons_succ]
          refine wpAnyH_ready (rs := [15]) (by kernel_rfl) (by simp) ?_
          refine (AllReadyH.cons (o := { dst := none, op := Op.store 23 (Operand.tmp 74) (Operand.tmp 73), type := 0, pos := "l15_memory.go:123", after := #[{ on := 14, ground := Ground.data }, { on := 13, ground := Ground.data }, { on := 13, ground := Ground.chain }, { on := 0, ground := Ground.phase }, { on := 1, ground := Ground.phase }, { on := 2, ground := Ground.phase }, { on := 3, ground := Ground.phase }, { on := 4, ground := Ground.phase }, { on := 5, ground := Ground.phase }, { on := 6, ground := Ground.phase }, { on := 7, ground := Ground.phase }, { on := 8, ground := Ground.phase }, { on := 9, ground := Ground.phase }, { on := 10, ground := Ground.phase }, { on := 11, ground := Ground.phase }, { on := 12, ground := Ground.phase }, { on := 13, ground := Ground.phase }], guard := none }) rfl (fun K hK => ?_) AllReadyH.nil)
          refine step_skip (w4.setCell ⟨gm, s, none⟩ v4) (by rfl) (by obtain ⟨a4, k4, hv4, _⟩ := R4.arow; rw [hv4]; go_simp) ?_
          refine hK.out _ _ ⟨CN.c4, CN.c0⟩ (fun hH' => ?_)
          clear hK K hH' hH
          refine wpAnyH_done (by kernel_rfl) ?_ _
          go_wp2
          go_ret2
          exact ⟨by rw [hH2.out, hO2.out, HRR.out]; rfl, by rw [hC2.out, HRR.out]; exact CN, _, by rw [hL2.out, HRR.out]; exact KN, FN⟩
      · have hpI : ¬ (p : Int) = 1 := by omega
        have HRR : Hid (R1 = (lL, coin, true, -1)) := by show _ = _; rw [HR1.out, if_neg hpI]
        clear HR1 hp
        go_wp2
        go_ret2
        exact ⟨by rw [hH2.out, hO2.out, HRR.out]; rfl, by rw [hC2.out, HRR.out]; exact CA, U, by rw [hL2.out, HRR.out]; show Kx _ _ _ _ _ _ (upL L s lL); rw [HLs.out]; exact KA, FA⟩
    · -- a miss
      have HXE : Hid (ixv lL nn ln = -1) := by show _ = _; unfold ixv; rw [if_neg (fun h => hin h.1)]
      rw [HXE.out]
      clear HXE
      have q1 := CA.c1
      by_cases hfull : ln = y
      · have hfI : (ln : Int) = (y : Int) := by omega
        have hfB : ((ln : Int) == (y : Int)) = true := beq_iff_eq.2 hfI
        have hk0 : 0 < ln := by omega
        have hk := hk0
        obtain ⟨g, rfl⟩ := HGA.out hk0
        have q3 := CA.c3
        by_cases hp : p = 3
        · have hpI : (p : Int) = 3 := by omega
          obtain ⟨c2, hc2⟩ : ∃ c2 : Int, (coin * 25173 + 13849) % 65536 = c2 := ⟨_, rfl⟩
          have hct : (coin * 25173 + 13849).tmod 65536 = c2 := by rw [← hc2]; exact Int.tmod_eq_emod_of_nonneg (by omega)
          have c20 : 0 ≤ c2 := by omega
          have c21 : c2 < 65536 := by omega
          obtain ⟨k, hkd⟩ : ∃ k, (c2 % (y : Int)).toNat = k := ⟨_, rfl⟩
          have ky0 := Int.emod_nonneg c2 (b := (y : Int)) (by omega)
          have ky1 := Int.emod_lt_of_pos c2 (b := (y : Int)) (by omega)
          have hkt : c2.tmod (y : Int) = (k : Int) := by rw [Int.tmod_eq_emod_of_nonneg c20]; omega
          have hk : k < ln := by omega
          have HRR : Hid (R1 = (cut lL k ++ [nn], c2, false, lL.getD k 0)) := by show _ = _; rw [hR.out]; unfold step1; rw [if_neg hin, if_pos (by rw [HLN.out]; exact hfull), if_pos hpI, hc2, hkd]
          have k0 : (0 : Int) ≤ (k : Int) := by omega
          have z0 : (k : Int) < (ln : Int) := by omega
          have z1 : (k : Int) + 1 ≤ (ln : Int) := by omega
          have z2 : (ln : Int) ≤ (cr : Int) := by omega
          have z3 : (k : Int) ≤ (cr : Int) := by omega
          have z4 : (k : Int) + 1 ≤ (cr : Int) := by omega
          have z5 : (0 : Int) ≤ (k : Int) + 1 := by omega
          have y0 : ¬ (y : Int) = 0 := by omega
          have q5 := CA.c5
          have f5 := CA.f 5
          have RA := HRA.out WA (Below.refl _ _)
          have O5 : Only cb WA (WA.setCell ⟨cb, 5, none⟩ (.int .i64 c2)) := (Only.refl _ _).setCell _ _
          have C5 := CA.s5 (.int .i64 c2)
          have K5 := (KA.head O5).1
          have F5 := FA.trans (KA.head O5).2
          have R5 := RA.grown (r := some cb) ⟨O5.os, O5.tape, O5.output, O5.size, fun k hk hne => O5.block k hk (fun q => hne (by rw [q]))⟩ (Or.inr (fun e => KH.out.nh s hs (by rw [HU.out]; exact e)))
          clear hin hR hfull hp ky0 ky1 hkd hc2 hfI RA O5
          go_wp2
          generalize WA.setCell ⟨cb, 5, none⟩ (.int .i64 c2) = W5 at C5 K5 F5 R5 ⊢
          clear q1 q3 q5 f5
          have q1 := C5.c1
          have q5 := C5.c5
          go_quiet (fail)
          obtain ⟨W6, hW6⟩ : ∃ W, W5.drewN nq = W := ⟨_, rfl⟩
          rw [hW6]
          have B6 : Below W5.heap.size W5 W6 := by rw [← hW6]; exact below_drewN (Below.refl _ _) _
          have CB := C5.next B6
          have KB := K5.next B6
          have FB := F5.trans (Fr.ofBelow B6)
          have HQ0 : Hid (∀ w', Below W6.heap.size W6 w' → ARow w' (.slice (some ⟨g, 0, none⟩) ln cr) lL) := fun w' b => (R5.next (B6.trans (b.mono B6.size))).arow
          have hcg : W6.cell? ⟨g, k, none⟩ = some (.int .i64 (lL.getD k 0)) := by
            obtain ⟨oa, oc, hv, hcell⟩ := HQ0.out W6 (Below.refl _ _)
            injection hv with hv1 hv2 hv3
            obtain ⟨g', o', e1, hc⟩ := hcell k (by rw [HLN.out]; exact hk)
            rw [← hv1] at e1
            injection e1 with e1
            injection e1 with e1 e2
            subst e1; subst e2
            rw [Nat.zero_add] at hc
            exact hc
          clear hW6 C5 K5 F5 R5 q1 q5
          go_wp2
          by_cases hcr : cr = k + 1
          · subst hcr
            generalize hWX : (W6).drew = WX
            have BX : Below (W6).heap.size (W6) WX := by rw [← hWX]; exact below_drew (Below.refl _ _)
            have HQ := Hid.mk (HQ0.out _ BX)
            refine wp_region_held_drew (S := fun _ => True) (by kernel_rfl) trivial (fun hH => ?_)
            rw [hWX]
            clear hWX
            refine wpAnyH_take (i := 1) (oi := { dst := some 111, op := Op.move (Operand.tmp 7), type := 23, pos := "l15_memory.go:135", after := #[], guard := none }) (v := .slice (some ⟨g, 0, none⟩) ln (k + 1)) rfl (by kernel_rfl) (by kernel_rfl) (by kernel_rfl) (fun _ _ _ h => h) (Or.inl ⟨by rfl, fun w0 hSw => by (go_simp)⟩) hH ?_
            simp only [Act.put, List.setIfInBounds_toArray, List.set_cons_zero, List.set_cons_succ]
            refine wpAnyH_take (i := 2) (oi := { dst := some 112, op := Op.move (Operand.tmp 12), type := 3, pos := "l15_memory.go:135", after := #[], guard := none }) (v := .int .i64 ((k : Nat) : Int)) rfl (by kernel_rfl) (by kernel_rfl) (by kernel_rfl) (fun _ _ _ h => h) (Or.inl ⟨by rfl, fun w0 hSw => by (go_simp)⟩) hH ?_
            simp only [Act.put, List.setIfInBounds_toArray, List.set_cons_zero, List.set_cons_succ]
            refine wpAnyH_take (i := 3) (oi := { dst := some 113, op := Op.slice 23 (Operand.tmp 111) none (some (Operand.tmp 112)) none, type := 23, pos := "l15_memory.go:135", after := #[{ on := 1, ground := Ground.data }, { on := 2, ground := Ground.data }], guard := none }) (v := .slice (some ⟨g, 0, none⟩) k (k + 1)) rfl (by kernel_rfl) (by kernel_rfl) (by kernel_rfl) (fun _ _ _ h => h) (Or.inl ⟨by rfl, fun w0 hSw => by (go_simp <;> first | (intro h; exfalso; omega) | exact (IntKind.wrap_i64 _).trans (by omega) | omega)⟩) hH ?_
            simp only [Act.put, List.setIfInBounds_toArray, List.set_cons_zero, List.set_cons_succ]
            refine wpAnyH_take (i := 5) (oi := { dst := some 115, op := Op.move (Operand.tmp 7), type := 23, pos := "l15_memory.go:135", after := #[], guard := none }) (v := .slice (some ⟨g, 0, none⟩) ln (k + 1)) rfl (by kernel_rfl) (by kernel_rfl) (by kernel_rfl) (fun _ _ _ h => h) (Or.inl ⟨by rfl, fun w0 hSw => by (go_simp)⟩) hH ?_
            simp only [Act.put, List.setIfInBounds_toArray, List.set_cons_zero, List.set_cons_succ]
            refine wpAnyH_take (i := 6) (oi := { dst := some 116, op := Op.move (Operand.tmp 12), type := 3, pos := "l15_memory.go:135", after := #[], guard := none }) (v := .int .i64 ((k : Nat) : Int)) rfl (by kernel_rfl) (by kernel_rfl) (by kernel_rfl) (fun _ _ _ h => h) (Or.inl ⟨by rfl, fun w0 hSw => by (go_simp)⟩) hH ?_
            simp only [Act.put, List.setIfInBounds_toArray, List.set_cons_zero, List.set_cons_succ]
            refine wpAnyH_take (i := 7) (oi := { dst := some 117, op := Op.binOp BinOp.add 3 (Operand.tmp 116) (Operand.const (Value.int IntKind.i64 1)) 3, type := 3, pos := "l15_memory.go:135", after := #[{ on := 6, ground := Ground.data }], guard := none }) (v := .int .i64 (((k : Nat) : Int) + 1)) rfl (by kernel_rfl) (by kernel_rfl) (by kernel_rfl) (fun _ _ _ h => h) (Or.inl ⟨by rfl, fun w0 hSw => by (go_simp <;> first | (intro h; exfalso; omega) | exact (IntKind.wrap_i64 _).trans (by omega) | omega)⟩) hH ?_
            simp only [Act.put, List.setIfInBounds_toArray, List.set_cons_zero, List.set_cons_succ]
            refine wpAnyH_take (i := 8) (oi := { dst := some 118, op := Op.slice 23 (Operand.tmp 115) (some (Operand.tmp 117)) none none, type := 23, pos := "l15_memory.go:135", after := #[{ on := 5, ground := Ground.data }, { on := 7, ground := Ground.data }], guard := none }) (v := .slice (some ⟨g, 0, none⟩) 0 0) rfl (by kernel_rfl) (by kernel_rfl) (by kernel_rfl) (fun _ _ _ h => h) (Or.inl ⟨by rfl, fun w0 hSw => by (go_simp <;> first | (intro h; exfalso; omega) | exact (IntKind.wrap_i64 _).trans (by omega) | omega)⟩) hH ?_
            simp only [Act.put, List.setIfInBounds_toArray, List.set_cons_zero, List.set_cons_succ]
            refine wpAnyH_ready (rs := [0]) (by kernel_rfl) (by simp) ?_
            refine (AllReadyH.cons (o := { dst := some 110, op := Op.buildSlice 23 0 #[], type := 23, pos := "l15_memory.go:135", after := #[], guard := none }) rfl (fun K hK => ?_) AllReadyH.nil)
            refine step_val (.slice (some ⟨WX.heap.size, 0, none⟩) 0 0) (WX.alloc (.cells #[] 3)) (by rfl) (by go_simp) ?_
            simp only [Act.put, List.setIfInBounds_toArray, List.set_cons_zero, List.set_cons_succ]
            refine hK.out _ _ trivial (fun hH' => ?_)
            clear hK K
            replace hH := hH'
            clear hH'
            have R1 := Ri.empty WX.heap.size WX (Nat.le_refl _)
            have Q1 := HQ.out.next (alloc_b (o := .cells #[] 3))
            have B1 : Below WX.heap.size WX (WX.alloc (.cells #[] 3)) := alloc_b
            refine wpAnyH_ready (rs := [4]) (by kernel_rfl) (by simp) ?_
            refine (AllReadyH.cons (o := { dst := some 114, op := Op.call { callee := Callee.builtin Builtin.append, args := #[Operand.tmp 110, Operand.tmp 113], argTypes := #[23, 23] }, type := 23, pos := "l15_memory.go:135", after := #[{ on := 0, ground := Ground.data }, { on := 3, ground := Ground.data }], guard := none }) rfl (fun K hK => ?_) AllReadyH.nil)
            obtain ⟨v2, w2, hr2, R2, G2, _⟩ := run_append_ri (P := Try.prog) 23 Try.underlying23 hi3 hz30 hz31 hz32 R1 (Q1.take k (Nat.le_of_lt hk) (k + 1)) (by have h9 := HLN.out; first | (simp; done) | (simp; omega))
            refine step_app (.tmp 110) (.tmp 113) 23 _ _ v2 w2 (by rfl) (by rfl) (by rfl) (by rfl) hr2 ?_
            simp only [Act.put, List.setIfInBounds_toArray, List.set_cons_zero, List.set_cons_succ]
            refine hK.out _ _ trivial (fun hH' => ?_)
            clear hK K
            replace hH := hH'
            clear hH'
            have B2 : Below WX.heap.size WX w2 := B1.grown G2 B1.size (fun g hg => (R1.lt g hg).1)
            have Q2 := ARow.none w2 (some ⟨g, 0, none⟩) 0 (L := lL.drop (k + 1)) (List.drop_eq_nil_of_le (by have := HLN.out; omega))
            clear hr2 G2 R1 Q1 B1
            refine wpAnyH_ready (rs := [9]) (by kernel_rfl) (by simp) ?_
            refine (AllReadyH.cons (o := { dst := some 119, op := Op.call { callee := Callee.builtin Builtin.append, args := #[Operand.tmp 114, Operand.tmp 118], argTypes := #[23, 23] }, type := 23, pos := "l15_memory.go:135", after := #[{ on := 4, ground := Ground.data }, { on := 8, ground := Ground.data }, { on := 4, ground := Ground.chain }], guard := none }) rfl (fun K hK => ?_) AllReadyH.nil)
            obtain ⟨v3, w3, hr3, R3, G3, _⟩ := run_append_ri (P := Try.prog) 23 Try.underlying23 hi3 hz30 hz31 hz32 R2 Q2 (by have h9 := HLN.out; first | (simp; done) | (simp; omega))
            refine step_app (.tmp 114) (.tmp 118) 23 _ _ v3 w3 (by rfl) (by rfl) (by rfl) (by rfl) hr3 ?_
            simp only [Act.put, List.setIfInBounds_toArray, List.set_cons_zero, List.set_cons_succ]
            refine hK.out _ _ trivial (fun hH' => ?_)
            clear hK K
            replace hH := hH'
            clear hH'
            have B3 : Below WX.heap.size WX w3 := B2.grown G3 B2.size (fun g hg => (R2.lt g hg).1)
            have R3c : Ri WX.heap.size w3 v3 (cut lL k) := by have h := R3; rw [List.nil_append] at h; exact h
            clear hr3 G3 R2 Q2 B2 R3
            refine wpAnyH_take (i := 10) (oi := { dst := some 7, op := Op.assign (Operand.tmp 119), type := 23, pos := "l15_memory.go:135", after := #[{ on := 9, ground := Ground.data }, { on := 9, ground := Ground.chain }, { on := 0, ground := Ground.phase }, { on := 1, ground := Ground.phase }, { on := 2, ground := Ground.phase }, { on := 3, ground := Ground.phase }, { on := 4, ground := Ground.phase }, { on := 5, ground := Ground.phase }, { on := 6, ground := Ground.phase }, { on := 7, ground := Ground.phase }, { on := 8, ground := Ground.phase }, { on := 9, ground := Ground.phase }], guard := none }) (v := v3) rfl (by kernel_rfl) (by kernel_rfl) (by kernel_rfl) (fun _ _ _ h => h) (Or.inl ⟨by rfl, fun w0 hSw => by (go_simp)⟩) hH ?_
            simp only [Act.put, List.setIfInBounds_toArray, List.set_cons_zero, List.set_cons_succ]
            refine wpAnyH_done (by kernel_rfl) ?_ _
            have FX3 : Fr cb gm m U U w w3 := (FB).trans (Fr.ofBelow (BX.trans (B3.mono BX.size)))
            have KX3 := (KB).next (BX.trans (B3.mono BX.size))
            have CX3 := (CB).next (BX.trans (B3.mono BX.size))
            have HSW : Hid (w.heap.size ≤ WX.heap.size) := by have h1 := (FB).size; have h2 := BX.size; show _ ≤ _; omega
            have HVW : Hid (∀ q, v3.ownBlock = some q → (U s).ownBlock = some q ∨ w.heap.size ≤ q) := fun q hq => Or.inr (Nat.le_trans HSW.out (R3c.lt q hq).1)
            have HLM : Hid ((cut lL k).length ≤ 1000) := by have h := cut_len lL k (by have := HLN.out; omega); have := HLN.out; show _ ≤ _; omega
            have RX3 := R3c.up (B := B) (Nat.le_trans KH.out.bg (Nat.le_of_lt (Nat.lt_of_lt_of_le KH.out.hg HSW.out)))
            clear hH B3 R3c
            go_wp2
            generalize hWW : (w3).drew = WY
            have bdy : Below (w3).heap.size (w3) WY := by rw [← hWW]; exact below_drew (Below.refl _ _)
            have KY := (KX3).next bdy
            have CY := (CX3).next bdy
            have RY := (RX3).next bdy
            have F0 : Hid (Fr cb gm m U U w WY) := (FX3).trans (Fr.ofBelow bdy)
            clear bdy
            clear KX3 CX3 RX3 FX3
            refine wp_region_held_drew (S := (fun u => u.cell? ⟨cb, 4, none⟩ = some (.slice (some ⟨gm, 0, none⟩) m cp) ∧ u.cell? ⟨cb, 0, none⟩ = some (.int .i64 (m : Int)))) (by kernel_rfl) (by rw [hWW]; exact ⟨CY.c4, CY.c0⟩) (fun hH => ?_)
            rw [hWW] at hH ⊢
            clear hWW
            refine wpAnyH_take (i := 0) (oi := { dst := some 120, op := Op.move (Operand.tmp 0), type := 82, pos := "l15_memory.go:137", after := #[], guard := none }) (v := .pointer (some ⟨cb, 0, none⟩)) rfl (by kernel_rfl) (by kernel_rfl) (by kernel_rfl) (fun _ _ _ h => h) (Or.inl ⟨by rfl, fun w0 hSw => by (go_simp)⟩) hH ?_
            simp only [Act.put, List.setIfInBounds_toArray, List.set_cons_zero, List.set_cons_succ]
            refine wpAnyH_take (i := 1) (oi := { dst := some 121, op := Op.nilCheck (Operand.tmp 120), type := 0, pos := "l15_memory.go:137", after := #[{ on := 0, ground := Ground.data }], guard := none }) (v := .pointer (some ⟨cb, 0, none⟩)) rfl (by kernel_rfl) (by kernel_rfl) (by kernel_rfl) (fun _ _ _ h => h) (Or.inl ⟨by rfl, fun w0 hSw => by (go_simp)⟩) hH ?_
            simp only [Act.put, List.setIfInBounds_toArray, List.set_cons_zero, List.set_cons_succ]
            refine wpAnyH_take (i := 2) (oi := { dst := some 122, op := Op.fieldAddr 42 (Operand.tmp 121) 4, type := 0, pos := "l15_memory.go:137", after := #[{ on := 1, ground := Ground.data }], guard := none }) (v := .pointer (some ⟨cb, 4, none⟩)) rfl (by kernel_rfl) (by kernel_rfl) (by kernel_rfl) (fun _ _ _ h => h) (Or.inl ⟨by rfl, fun w0 hSw => by (go_simp)⟩) hH ?_
            simp only [Act.put, List.setIfInBounds_toArray, List.set_cons_zero, List.set_cons_succ]
            refine wpAnyH_take (i := 3) (oi := { dst := some 123, op := Op.load 40 (Operand.tmp 122), type := 40, pos := "l15_memory.go:137", after := #[{ on := 2, ground := Ground.data }], guard := none }) (v := .slice (some ⟨gm, 0, none⟩) m cp) rfl (by kernel_rfl) (by kernel_rfl) (by kernel_rfl) (fun _ _ _ h => h) (Or.inl ⟨by rfl, fun w0 hSw => by ((have e4 := hSw.1); go_simp)⟩) hH ?_
            simp only [Act.put, List.setIfInBounds_toArray, List.set_cons_zero, List.set_cons_succ]
            refine wpAnyH_take (i := 4) (oi := { dst := some 124, op := Op.move (Operand.tmp 6), type := 3, pos := "l15_memory.go:137", after := #[], guard := none }) (v := .int .i64 nn) rfl (by kernel_rfl) (by kernel_rfl) (by kernel_rfl) (fun _ _ _ h => h) (Or.inl ⟨by rfl, fun w0 hSw => by (go_simp)⟩) hH ?_
            simp only [Act.put, List.setIfInBounds_toArray, List.set_cons_zero, List.set_cons_succ]
            refine wpAnyH_take (i := 5) (oi := { dst := some 125, op := Op.move (Operand.tmp 0), type := 82, pos := "l15_memory.go:137", after := #[], guard := none }) (v := .pointer (some ⟨cb, 0, none⟩)) rfl (by kernel_rfl) (by kernel_rfl) (by kernel_rfl) (fun _ _ _ h => h) (Or.inl ⟨by rfl, fun w0 hSw => by (go_simp)⟩) hH ?_
            simp only [Act.put, List.setIfInBounds_toArray, List.set_cons_zero, List.set_cons_succ]
            refine wpAnyH_take (i := 6) (oi := { dst := some 126, op := Op.nilCheck (Operand.tmp 125), type := 0, pos := "l15_memory.go:137", after := #[{ on := 5, ground := Ground.data }], guard := none }) (v := .pointer (some ⟨cb, 0, none⟩)) rfl (by kernel_rfl) (by kernel_rfl) (by kernel_rfl) (fun _ _ _ h => h) (Or.inl ⟨by rfl, fun w0 hSw => by (go_simp)⟩) hH ?_
            simp only [Act.put, List.setIfInBounds_toArray, List.set_cons_zero, List.set_cons_succ]
            refine wpAnyH_take (i := 7) (oi := { dst := some 127, op := Op.fieldAddr 42 (Operand.tmp 126) 0, type := 0, pos := "l15_memory.go:137", after := #[{ on := 6, ground := Ground.data }], guard := none }) (v := .pointer (some ⟨cb, 0, none⟩)) rfl (by kernel_rfl) (by kernel_rfl) (by kernel_rfl) (fun _ _ _ h => h) (Or.inl ⟨by rfl, fun w0 hSw => by (go_simp)⟩) hH ?_
            simp only [Act.put, List.setIfInBounds_toArray, List.set_cons_zero, List.set_cons_succ]
            refine wpAnyH_take (i := 8) (oi := { dst := some 128, op := Op.load 3 (Operand.tmp 127), type := 3, pos := "l15_memory.go:137", after := #[{ on := 7, ground := Ground.data }], guard := none }) (v := .int .i64 (m : Int)) rfl (by kernel_rfl) (by kernel_rfl) (by kernel_rfl) (fun _ _ _ h => h) (Or.inl ⟨by rfl, fun w0 hSw => by ((have e4 := hSw.2); go_simp)⟩) hH ?_
            simp only [Act.put, List.setIfInBounds_toArray, List.set_cons_zero, List.set_cons_succ]
            refine wpAnyH_take (i := 9) (oi := { dst := some 129, op := Op.binOp BinOp.rem 3 (Operand.tmp 124) (Operand.tmp 128) 3, type := 3, pos := "l15_memory.go:137", after := #[{ on := 4, ground := Ground.data }, { on := 8, ground := Ground.data }], guard := none }) (v := .int .i64 (s : Int)) rfl (by kernel_rfl) (by kernel_rfl) (by kernel_rfl) (fun _ _ _ h => h) (Or.inl ⟨by rfl, fun w0 hSw => by (go_simp <;> first | (intro h; exfalso; omega) | exact (IntKind.wrap_i64 _).trans (by omega) | omega)⟩) hH ?_
            simp only [Act.put, List.setIfInBounds_toArray, List.set_cons_zero, List.set_cons_succ]
            refine wpAnyH_take (i := 10) (oi := { dst := some 130, op := Op.move (Operand.tmp 7), type := 23, pos := "l15_memory.go:137", after := #[], guard := none }) (v := v3) rfl (by kernel_rfl) (by kernel_rfl) (by kernel_rfl) (fun _ _ _ h => h) (Or.inl ⟨by rfl, fun w0 hSw => by (go_simp)⟩) hH ?_
            simp only [Act.put, List.setIfInBounds_toArray, List.set_cons_zero, List.set_cons_succ]
            refine wpAnyH_take (i := 11) (oi := { dst := some 131, op := Op.move (Operand.tmp 6), type := 3, pos := "l15_memory.go:137", after := #[], guard := none }) (v := .int .i64 nn) rfl (by kernel_rfl) (by kernel_rfl) (by kernel_rfl) (fun _ _ _ h => h) (Or.inl ⟨by rfl, fun w0 hSw => by (go_simp)⟩) hH ?_
            simp only [Act.put, List.setIfInBounds_toArray, List.set_cons_zero, List.set_cons_succ]
            refine wpAnyH_ready (rs := [12]) (by kernel_rfl) (by simp) ?_
            refine (AllReadyH.cons (o := { dst := some 132, op := Op.buildSlice 23 1 #[(0, Operand.tmp 131)], type := 23, pos := "l15_memory.go:137", after := #[{ on := 11, ground := Ground.data }], guard := none }) rfl (fun K hK => ?_) AllReadyH.nil)
            refine step_val (.slice (some ⟨WY.heap.size, 0, none⟩) 1 1) (WY.alloc (.cells #[.int .i64 nn] 3)) (by rfl) (by go_simp) ?_
            simp only [Act.put, List.setIfInBounds_toArray, List.set_cons_zero, List.set_cons_succ]
            refine hK.out _ _ ⟨cell_nx CY.c4 alloc_b, cell_nx CY.c0 alloc_b⟩ (fun hH' => ?_)
            clear hK K
            replace hH := hH'
            clear hH'
            have V1 := RY.next (alloc_b (o := .cells #[.int .i64 nn] 3))
            refine wpAnyH_ready (rs := [13]) (by kernel_rfl) (by simp) ?_
            refine (AllReadyH.cons (o := { dst := some 133, op := Op.call { callee := Callee.builtin Builtin.append, args := #[Operand.tmp 130, Operand.tmp 132], argTypes := #[23, 23] }, type := 23, pos := "l15_memory.go:137", after := #[{ on := 10, ground := Ground.data }, { on := 12, ground := Ground.data }], guard := none }) rfl (fun K hK => ?_) AllReadyH.nil)
            obtain ⟨v4, w4, hr4, R4, G4, A4⟩ := run_append_ri (P := Try.prog) 23 Try.underlying23 hi3 hz30 hz31 hz32 V1 (ARow.one WY nn) (by have := HLM.out; simp; omega)
            obtain ⟨cg4, fg4, hb4, sz4, hb5, KN, FN⟩ := Kx.laid KH.out F0.out KY hs HVW.out (fun q hq => (RY.lt q hq).2) G4 A4 R4
            have C4 := CY.block hb4 sz4
            have CN := CY.block hb5 (by simpa using sz4)
            refine step_app (.tmp 130) (.tmp 132) 23 _ _ v4 w4 (by rfl) (by rfl) (by rfl) (by rfl) hr4 ?_
            simp only [Act.put, List.setIfInBounds_toArray, List.set_cons_zero, List.set_cons_succ]
            refine hK.out _ _ ⟨C4.c4, C4.c0⟩ (fun hH' => ?_)
            clear hK K
            replace hH := hH'
            clear hH' hr4 V1 G4 A4
            refine wpAnyH_take (i := 14) (oi := { dst := some 134, op := Op.indexAddr 40 (Operand.tmp 123) (Operand.tmp 129), type := 0, pos := "l15_memory.go:137", after := #[{ on := 3, ground := Ground.data }, { on := 9, ground := Ground.data }, { on := 0, ground := Ground.phase }, { on := 1, ground := Ground.phase }, { on := 2, ground := Ground.phase }, { on := 3, ground := Ground.phase }, { on := 4, ground := Ground.phase }, { on := 5, ground := Ground.phase }, { on := 6, ground := Ground.phase }, { on := 7, ground := Ground.phase }, { on := 8, ground := Ground.phase }, { on := 9, ground := Ground.phase }, { on := 10, ground := Ground.phase }, { on := 11, ground := Ground.phase }, { on := 12, ground := Ground.phase }, { on := 13, ground := Ground.phase }], guard := none }) (v := .pointer (some ⟨gm, s, none⟩)) rfl (by kernel_rfl) (by kernel_rfl) (by kernel_rfl) (fun _ _ _ h => h) (Or.inl ⟨by rfl, fun w0 hSw => by (go_simp)⟩) hH ?_
            simp only [Act.put, List.setIfInBounds_toArray, List.set_cons_zero, List.set_cons_succ]
            refine wpAnyH_ready (rs := [15]) (by kernel_rfl) (by simp) ?_
            refine (AllReadyH.cons (o := { dst := none, op := Op.store 23 (Operand.tmp 134) (Operand.tmp 133), type := 0, pos := "l15_memory.go:137", after := #[{ on := 14, ground := Ground.data }, { on := 13, ground := Ground.data }, { on := 13, ground := Ground.chain }, { on := 0, ground := Ground.phase }, { on := 1, ground := Ground.phase }, { on := 2, ground := Ground.phase }, { on := 3, ground := Ground.phase }, { on := 4, ground := Ground.phase }, { on := 5, ground := Ground.phase }, { on := 6, ground := Ground.phase }, { on := 7, ground := Ground.phase }, { on := 8, ground := Ground.phase }, { on := 9, ground := Ground.phase }, { on := 10, ground := Ground.phase }, { on := 11, ground := Ground.phase }, { on := 12, ground := Ground.phase }, { on := 13, ground := Ground.phase }], guard := none }) rfl (fun K hK => ?_) AllReadyH.nil)
            refine step_skip (w4.setCell ⟨gm, s, none⟩ v4) (by rfl) (by obtain ⟨a4, k4, hv4, _⟩ := R4.arow; rw [hv4]; go_simp) ?_
            refine hK.out _ _ ⟨CN.c4, CN.c0⟩ (fun hH' => ?_)
            clear hK K hH' hH
            refine wpAnyH_done (by kernel_rfl) ?_ _
            go_wp2
            go_ret2
            exact ⟨by rw [hH2.out, hO2.out, HRR.out]; rfl, by rw [hC2.out, HRR.out]; exact CN, _, by rw [hL2.out, HRR.out]; exact KN, FN⟩
          · generalize hWX : (W6).drew = WX
            have BX : Below (W6).heap.size (W6) WX := by rw [← hWX]; exact below_drew (Below.refl _ _)
            have HQ := Hid.mk (HQ0.out _ BX)
            refine wp_region_held_drew (S := fun _ => True) (by kernel_rfl) trivial (fun hH => ?_)
            rw [hWX]
            clear hWX
            refine wpAnyH_take (i := 1) (oi := { dst := some 111, op := Op.move (Operand.tmp 7), type := 23, pos := "l15_memory.go:135", after := #[], guard := none }) (v := .slice (some ⟨g, 0, none⟩) ln cr) rfl (by kernel_rfl) (by kernel_rfl) (by kernel_rfl) (fun _ _ _ h => h) (Or.inl ⟨by rfl, fun w0 hSw => by (go_simp)⟩) hH ?_
            simp only [Act.put, List.setIfInBounds_toArray, List.set_cons_zero, List.set_cons_succ]
            refine wpAnyH_take (i := 2) (oi := { dst := some 112, op := Op.move (Operand.tmp 12), type := 3, pos := "l15_memory.go:135", after := #[], guard := none }) (v := .int .i64 ((k : Nat) : Int)) rfl (by kernel_rfl) (by kernel_rfl) (by kernel_rfl) (fun _ _ _ h => h) (Or.inl ⟨by rfl, fun w0 hSw => by (go_simp)⟩) hH ?_
            simp only [Act.put, List.setIfInBounds_toArray, List.set_cons_zero, List.set_cons_succ]
            refine wpAnyH_take (i := 3) (oi := { dst := some 113, op := Op.slice 23 (Operand.tmp 111) none (some (Operand.tmp 112)) none, type := 23, pos := "l15_memory.go:135", after := #[{ on := 1, ground := Ground.data }, { on := 2, ground := Ground.data }], guard := none }) (v := .slice (some ⟨g, 0, none⟩) k cr) rfl (by kernel_rfl) (by kernel_rfl) (by kernel_rfl) (fun _ _ _ h => h) (Or.inl ⟨by rfl, fun w0 hSw => by (go_simp <;> first | (intro h; exfalso; omega) | exact (IntKind.wrap_i64 _).trans (by omega) | omega)⟩) hH ?_
            simp only [Act.put, List.setIfInBounds_toArray, List.set_cons_zero, List.set_cons_succ]
            refine wpAnyH_take (i := 5) (oi := { dst := some 115, op := Op.move (Operand.tmp 7), type := 23, pos := "l15_memory.go:135", after := #[], guard := none }) (v := .slice (some ⟨g, 0, none⟩) ln cr) rfl (by kernel_rfl) (by kernel_rfl) (by kernel_rfl) (fun _ _ _ h => h) (Or.inl ⟨by rfl, fun w0 hSw => by (go_simp)⟩) hH ?_
            simp only [Act.put, List.setIfInBounds_toArray, List.set_cons_zero, List.set_cons_succ]
            refine wpAnyH_take (i := 6) (oi := { dst := some 116, op := Op.move (Operand.tmp 12), type := 3, pos := "l15_memory.go:135", after := #[], guard := none }) (v := .int .i64 ((k : Nat) : Int)) rfl (by kernel_rfl) (by kernel_rfl) (by kernel_rfl) (fun _ _ _ h => h) (Or.inl ⟨by rfl, fun w0 hSw => by (go_simp)⟩) hH ?_
            simp only [Act.put, List.setIfInBounds_toArray, List.set_cons_zero, List.set_cons_succ]
            refine wpAnyH_take (i := 7) (oi := { dst := some 117, op := Op.binOp BinOp.add 3 (Operand.tmp 116) (Operand.const (Value.int IntKind.i64 1)) 3, type := 3, pos := "l15_memory.go:135", after := #[{ on := 6, ground := Ground.data }], guard := none }) (v := .int .i64 (((k : Nat) : Int) + 1)) rfl (by kernel_rfl) (by kernel_rfl) (by kernel_rfl) (fun _ _ _ h => h) (Or.inl ⟨by rfl, fun w0 hSw => by (go_simp <;> first | (intro h; exfalso; omega) | exact (IntKind.wrap_i64 _).trans (by omega) | omega)⟩) hH ?_
            simp only [Act.put, List.setIfInBounds_toArray, List.set_cons_zero, List.set_cons_succ]
            refine wpAnyH_take (i := 8) (oi := { dst := some 118, op := Op.slice 23 (Operand.tmp 115) (some (Operand.tmp 117)) none none, type := 23, pos := "l15_memory.go:135", after := #[{ on := 5, ground := Ground.data }, { on := 7, ground := Ground.data }], guard := none }) (v := .slice (some ⟨g, k + 1, none⟩) (ln - (k + 1)) (cr - (k + 1))) rfl (by kernel_rfl) (by kernel_rfl) (by kernel_rfl) (fun _ _ _ h => h) (Or.inl ⟨by rfl, fun w0 hSw => by (go_simp <;> first | (intro h; exfalso; omega) | exact (IntKind.wrap_i64 _).trans (by omega) | omega)⟩) hH ?_
            simp only [Act.put, List.setIfInBounds_toArray, List.set_cons_zero, List.set_cons_succ]
            refine wpAnyH_ready (rs := [0]) (by kernel_rfl) (by simp) ?_
            refine (AllReadyH.cons (o := { dst := some 110, op := Op.buildSlice 23 0 #[], type := 23, pos := "l15_memory.go:135", after := #[], guard := none }) rfl (fun K hK => ?_) AllReadyH.nil)
            refine step_val (.slice (some ⟨WX.heap.size, 0, none⟩) 0 0) (WX.alloc (.cells #[] 3)) (by rfl) (by go_simp) ?_
            simp only [Act.put, List.setIfInBounds_toArray, List.set_cons_zero, List.set_cons_succ]
            refine hK.out _ _ trivial (fun hH' => ?_)
            clear hK K
            replace hH := hH'
            clear hH'
            have R1 := Ri.empty WX.heap.size WX (Nat.le_refl _)
            have Q1 := HQ.out.next (alloc_b (o := .cells #[] 3))
            have B1 : Below WX.heap.size WX (WX.alloc (.cells #[] 3)) := alloc_b
            refine wpAnyH_ready (rs := [4]) (by kernel_rfl) (by simp) ?_
            refine (AllReadyH.cons (o := { dst := some 114, op := Op.call { callee := Callee.builtin Builtin.append, args := #[Operand.tmp 110, Operand.tmp 113], argTypes := #[23, 23] }, type := 23, pos := "l15_memory.go:135", after := #[{ on := 0, ground := Ground.data }, { on := 3, ground := Ground.data }], guard := none }) rfl (fun K hK => ?_) AllReadyH.nil)
            obtain ⟨v2, w2, hr2, R2, G2, _⟩ := run_append_ri (P := Try.prog) 23 Try.underlying23 hi3 hz30 hz31 hz32 R1 (Q1.take k (Nat.le_of_lt hk) cr) (by have h9 := HLN.out; first | (simp; done) | (simp; omega))
            refine step_app (.tmp 110) (.tmp 113) 23 _ _ v2 w2 (by rfl) (by rfl) (by rfl) (by rfl) hr2 ?_
            simp only [Act.put, List.setIfInBounds_toArray, List.set_cons_zero, List.set_cons_succ]
            refine hK.out _ _ trivial (fun hH' => ?_)
            clear hK K
            replace hH := hH'
            clear hH'
            have B2 : Below WX.heap.size WX w2 := B1.grown G2 B1.size (fun g hg => (R1.lt g hg).1)
            have Q2 := (show ARow w2 (.slice (some ⟨g, k + 1, none⟩) (ln - (k + 1)) (cr - (k + 1))) (lL.drop (k + 1)) by have h := (HQ.out.next B2).drop (k + 1) (cr - (k + 1)); rwa [Nat.zero_add] at h)
            clear hr2 G2 R1 Q1 B1
            refine wpAnyH_ready (rs := [9]) (by kernel_rfl) (by simp) ?_
            refine (AllReadyH.cons (o := { dst := some 119, op := Op.call { callee := Callee.builtin Builtin.append, args := #[Operand.tmp 114, Operand.tmp 118], argTypes := #[23, 23] }, type := 23, pos := "l15_memory.go:135", after := #[{ on := 4, ground := Ground.data }, { on := 8, ground := Ground.data }, { on := 4, ground := Ground.chain }], guard := none }) rfl (fun K hK => ?_) AllReadyH.nil)
            obtain ⟨v3, w3, hr3, R3, G3, _⟩ := run_append_ri (P := Try.prog) 23 Try.underlying23 hi3 hz30 hz31 hz32 R2 Q2 (by have h9 := HLN.out; first | (simp; done) | (simp; omega))
            refine step_app (.tmp 114) (.tmp 118) 23 _ _ v3 w3 (by rfl) (by rfl) (by rfl) (by rfl) hr3 ?_
            simp only [Act.put, List.setIfInBounds_toArray, List.set_cons_zero, List.set_cons_succ]
            refine hK.out _ _ trivial (fun hH' => ?_)
            clear hK K
            replace hH := hH'
            clear hH'
            have B3 : Below WX.heap.size WX w3 := B2.grown G3 B2.size (fun g hg => (R2.lt g hg).1)
            have R3c : Ri WX.heap.size w3 v3 (cut lL k) := by have h := R3; rw [List.nil_append] at h; exact h
            clear hr3 G3 R2 Q2 B2 R3
            refine wpAnyH_take (i := 10) (oi := { dst := some 7, op := Op.assign (Operand.tmp 119), type := 23, pos := "l15_memory.go:135", after := #[{ on := 9, ground := Ground.data }, { on := 9, ground := Ground.chain }, { on := 0, ground := Ground.phase }, { on := 1, ground := Ground.phase }, { on := 2, ground := Ground.phase }, { on := 3, ground := Ground.phase }, { on := 4, ground := Ground.phase }, { on := 5, ground := Ground.phase }, { on := 6, ground := Ground.phase }, { on := 7, ground := Ground.phase }, { on := 8, ground := Ground.phase }, { on := 9, ground := Ground.phase }], guard := none }) (v := v3) rfl (by kernel_rfl) (by kernel_rfl) (by kernel_rfl) (fun _ _ _ h => h) (Or.inl ⟨by rfl, fun w0 hSw => by (go_simp)⟩) hH ?_
            simp only [Act.put, List.setIfInBounds_toArray, List.set_cons_zero, List.set_cons_succ]
            refine wpAnyH_done (by kernel_rfl) ?_ _
            have FX3 : Fr cb gm m U U w w3 := (FB).trans (Fr.ofBelow (BX.trans (B3.mono BX.size)))
            have KX3 := (KB).next (BX.trans (B3.mono BX.size))
            have CX3 := (CB).next (BX.trans (B3.mono BX.size))
            have HSW : Hid (w.heap.size ≤ WX.heap.size) := by have h1 := (FB).size; have h2 := BX.size; show _ ≤ _; omega
            have HVW : Hid (∀ q, v3.ownBlock = some q → (U s).ownBlock = some q ∨ w.heap.size ≤ q) := fun q hq => Or.inr (Nat.le_trans HSW.out (R3c.lt q hq).1)
            have HLM : Hid ((cut lL k).length ≤ 1000) := by have h := cut_len lL k (by have := HLN.out; omega); have := HLN.out; show _ ≤ _; omega
            have RX3 := R3c.up (B := B) (Nat.le_trans KH.out.bg (Nat.le_of_lt (Nat.lt_of_lt_of_le KH.out.hg HSW.out)))
            clear hH B3 R3c
            go_wp2
            generalize hWW : (w3).drew = WY
            have bdy : Below (w3).heap.size (w3) WY := by rw [← hWW]; exact below_drew (Below.refl _ _)
            have KY := (KX3).next bdy
            have CY := (CX3).next bdy
            have RY := (RX3).next bdy
            have F0 : Hid (Fr cb gm m U U w WY) := (FX3).trans (Fr.ofBelow bdy)
            clear bdy
            clear KX3 CX3 RX3 FX3
            refine wp_region_held_drew (S := (fun u => u.cell? ⟨cb, 4, none⟩ = some (.slice (some ⟨gm, 0, none⟩) m cp) ∧ u.cell? ⟨cb, 0, none⟩ = some (.int .i64 (m : Int)))) (by kernel_rfl) (by rw [hWW]; exact ⟨CY.c4, CY.c0⟩) (fun hH => ?_)
            rw [hWW] at hH ⊢
            clear hWW
            refine wpAnyH_take (i := 0) (oi := { dst := some 120, op := Op.move (Operand.tmp 0), type := 82, pos := "l15_memory.go:137", after := #[], guard := none }) (v := .pointer (some ⟨cb, 0, none⟩)) rfl (by kernel_rfl) (by kernel_rfl) (by kernel_rfl) (fun _ _ _ h => h) (Or.inl ⟨by rfl, fun w0 hSw => by (go_simp)⟩) hH ?_
            simp only [Act.put, List.setIfInBounds_toArray, List.set_cons_zero, List.set_cons_succ]
            refine wpAnyH_take (i := 1) (oi := { dst := some 121, op := Op.nilCheck (Operand.tmp 120), type := 0, pos := "l15_memory.go:137", after := #[{ on := 0, ground := Ground.data }], guard := none }) (v := .pointer (some ⟨cb, 0, none⟩)) rfl (by kernel_rfl) (by kernel_rfl) (by kernel_rfl) (fun _ _ _ h => h) (Or.inl ⟨by rfl, fun w0 hSw => by (go_simp)⟩) hH ?_
            simp only [Act.put, List.setIfInBounds_toArray, List.set_cons_zero, List.set_cons_succ]
            refine wpAnyH_take (i := 2) (oi := { dst := some 122, op := Op.fieldAddr 42 (Operand.tmp 121) 4, type := 0, pos := "l15_memory.go:137", after := #[{ on := 1, ground := Ground.data }], guard := none }) (v := .pointer (some ⟨cb, 4, none⟩)) rfl (by kernel_rfl) (by kernel_rfl) (by kernel_rfl) (fun _ _ _ h => h) (Or.inl ⟨by rfl, fun w0 hSw => by (go_simp)⟩) hH ?_
            simp only [Act.put, List.setIfInBounds_toArray, List.set_cons_zero, List.set_cons_succ]
            refine wpAnyH_take (i := 3) (oi := { dst := some 123, op := Op.load 40 (Operand.tmp 122), type := 40, pos := "l15_memory.go:137", after := #[{ on := 2, ground := Ground.data }], guard := none }) (v := .slice (some ⟨gm, 0, none⟩) m cp) rfl (by kernel_rfl) (by kernel_rfl) (by kernel_rfl) (fun _ _ _ h => h) (Or.inl ⟨by rfl, fun w0 hSw => by ((have e4 := hSw.1); go_simp)⟩) hH ?_
            simp only [Act.put, List.setIfInBounds_toArray, List.set_cons_zero, List.set_cons_succ]
            refine wpAnyH_take (i := 4) (oi := { dst := some 124, op := Op.move (Operand.tmp 6), type := 3, pos := "l15_memory.go:137", after := #[], guard := none }) (v := .int .i64 nn) rfl (by kernel_rfl) (by kernel_rfl) (by kernel_rfl) (fun _ _ _ h => h) (Or.inl ⟨by rfl, fun w0 hSw => by (go_simp)⟩) hH ?_
            simp only [Act.put, List.setIfInBounds_toArray, List.set_cons_zero, List.set_cons_succ]
            refine wpAnyH_take (i := 5) (oi := { dst := some 125, op := Op.move (Operand.tmp 0), type := 82, pos := "l15_memory.go:137", after := #[], guard := none }) (v := .pointer (some ⟨cb, 0, none⟩)) rfl (by kernel_rfl) (by kernel_rfl) (by kernel_rfl) (fun _ _ _ h => h) (Or.inl ⟨by rfl, fun w0 hSw => by (go_simp)⟩) hH ?_
            simp only [Act.put, List.setIfInBounds_toArray, List.set_cons_zero, List.set_cons_succ]
            refine wpAnyH_take (i := 6) (oi := { dst := some 126, op := Op.nilCheck (Operand.tmp 125), type := 0, pos := "l15_memory.go:137", after := #[{ on := 5, ground := Ground.data }], guard := none }) (v := .pointer (some ⟨cb, 0, none⟩)) rfl (by kernel_rfl) (by kernel_rfl) (by kernel_rfl) (fun _ _ _ h => h) (Or.inl ⟨by rfl, fun w0 hSw => by (go_simp)⟩) hH ?_
            simp only [Act.put, List.setIfInBounds_toArray, List.set_cons_zero, List.set_cons_succ]
            refine wpAnyH_take (i := 7) (oi := { dst := some 127, op := Op.fieldAddr 42 (Operand.tmp 126) 0, type := 0, pos := "l15_memory.go:137", after := #[{ on := 6, ground := Ground.data }], guard := none }) (v := .pointer (some ⟨cb, 0, none⟩)) rfl (by kernel_rfl) (by kernel_rfl) (by kernel_rfl) (fun _ _ _ h => h) (Or.inl ⟨by rfl, fun w0 hSw => by (go_simp)⟩) hH ?_
            simp only [Act.put, List.setIfInBounds_toArray, List.set_cons_zero, List.set_cons_succ]
            refine wpAnyH_take (i := 8) (oi := { dst := some 128, op := Op.load 3 (Operand.tmp 127), type := 3, pos := "l15_memory.go:137", after := #[{ on := 7, ground := Ground.data }], guard := none }) (v := .int .i64 (m : Int)) rfl (by kernel_rfl) (by kernel_rfl) (by kernel_rfl) (fun _ _ _ h => h) (Or.inl ⟨by rfl, fun w0 hSw => by ((have e4 := hSw.2); go_simp)⟩) hH ?_
            simp only [Act.put, List.setIfInBounds_toArray, List.set_cons_zero, List.set_cons_succ]
            refine wpAnyH_take (i := 9) (oi := { dst := some 129, op := Op.binOp BinOp.rem 3 (Operand.tmp 124) (Operand.tmp 128) 3, type := 3, pos := "l15_memory.go:137", after := #[{ on := 4, ground := Ground.data }, { on := 8, ground := Ground.data }], guard := none }) (v := .int .i64 (s : Int)) rfl (by kernel_rfl) (by kernel_rfl) (by kernel_rfl) (fun _ _ _ h => h) (Or.inl ⟨by rfl, fun w0 hSw => by (go_simp <;> first | (intro h; exfalso; omega) | exact (IntKind.wrap_i64 _).trans (by omega) | omega)⟩) hH ?_
            simp only [Act.put, List.setIfInBounds_toArray, List.set_cons_zero, List.set_cons_succ]
            refine wpAnyH_take (i := 10) (oi := { dst := some 130, op := Op.move (Operand.tmp 7), type := 23, pos := "l15_memory.go:137", after := #[], guard := none }) (v := v3) rfl (by kernel_rfl) (by kernel_rfl) (by kernel_rfl) (fun _ _ _ h => h) (Or.inl ⟨by rfl, fun w0 hSw => by (go_simp)⟩) hH ?_
            simp only [Act.put, List.setIfInBounds_toArray, List.set_cons_zero, List.set_cons_succ]
            refine wpAnyH_take (i := 11) (oi := { dst := some 131, op := Op.move (Operand.tmp 6), type := 3, pos := "l15_memory.go:137", after := #[], guard := none }) (v := .int .i64 nn) rfl (by kernel_rfl) (by kernel_rfl) (by kernel_rfl) (fun _ _ _ h => h) (Or.inl ⟨by rfl, fun w0 hSw => by (go_simp)⟩) hH ?_
            simp only [Act.put, List.setIfInBounds_toArray, List.set_cons_zero, List.set_cons_succ]
            refine wpAnyH_ready (rs := [12]) (by kernel_rfl) (by simp) ?_
            refine (AllReadyH.cons (o := { dst := some 132, op := Op.buildSlice 23 1 #[(0, Operand.tmp 131)], type := 23, pos := "l15_memory.go:137", after := #[{ on := 11, ground := Ground.data }], guard := none }) rfl (fun K hK => ?_) AllReadyH.nil)
            refine step_val (.slice (some ⟨WY.heap.size, 0, none⟩) 1 1) (WY.alloc (.cells #[.int .i64 nn] 3)) (by rfl) (by go_simp) ?_
            simp only [Act.put, List.setIfInBounds_toArray, List.set_cons_zero, List.set_cons_succ]
            refine hK.out _ _ ⟨cell_nx CY.c4 alloc_b, cell_nx CY.c0 alloc_b⟩ (fun hH' => ?_)
            clear hK K
            replace hH := hH'
            clear hH'
            have V1 := RY.next (alloc_b (o := .cells #[.int .i64 nn] 3))
            refine wpAnyH_ready (rs := [13]) (by kernel_rfl) (by simp) ?_
            refine (AllReadyH.cons (o := { dst := some 133, op := Op.call { callee := Callee.builtin Builtin.append, args := #[Operand.tmp 130, Operand.tmp 132], argTypes := #[23, 23] }, type := 23, pos := "l15_memory.go:137", after := #[{ on := 10, ground := Ground.data }, { on := 12, ground := Ground.data }], guard := none }) rfl (fun K hK => ?_) AllReadyH.nil)
            obtain ⟨v4, w4, hr4, R4, G4, A4⟩ := run_append_ri (P := Try.prog) 23 Try.underlying23 hi3 hz30 hz31 hz32 V1 (ARow.one WY nn) (by have := HLM.out; simp; omega)
            obtain ⟨cg4, fg4, hb4, sz4, hb5, KN, FN⟩ := Kx.laid KH.out F0.out KY hs HVW.out (fun q hq => (RY.lt q hq).2) G4 A4 R4
            have C4 := CY.block hb4 sz4
            have CN := CY.block hb5 (by simpa using sz4)
            refine step_app (.tmp 130) (.tmp 132) 23 _ _ v4 w4 (by rfl) (by rfl) (by rfl) (by rfl) hr4 ?_
            simp only [Act.put, List.setIfInBounds_toArray, List.set_cons_zero, List.set_cons_succ]
            refine hK.out _ _ ⟨C4.c4, C4.c0⟩ (fun hH' => ?_)
            clear hK K
            replace hH := hH'
            clear hH' hr4 V1 G4 A4
            refine wpAnyH_take (i := 14) (oi := { dst := some 134, op := Op.indexAddr 40 (Operand.tmp 123) (Operand.tmp 129), type := 0, pos := "l15_memory.go:137", after := #[{ on := 3, ground := Ground.data }, { on := 9, ground := Ground.data }, { on := 0, ground := Ground.phase }, { on := 1, ground := Ground.phase }, { on := 2, ground := Ground.phase }, { on := 3, ground := Ground.phase }, { on := 4, ground := Ground.phase }, { on := 5, ground := Ground.phase }, { on := 6, ground := Ground.phase }, { on := 7, ground := Ground.phase }, { on := 8, ground := Ground.phase }, { on := 9, ground := Ground.phase }, { on := 10, ground := Ground.phase }, { on := 11, ground := Ground.phase }, { on := 12, ground := Ground.phase }, { on := 13, ground := Ground.phase }], guard := none }) (v := .pointer (some ⟨gm, s, none⟩)) rfl (by kernel_rfl) (by kernel_rfl) (by kernel_rfl) (fun _ _ _ h => h) (Or.inl ⟨by rfl, fun w0 hSw => by (go_simp)⟩) hH ?_
            simp only [Act.put, List.setIfInBounds_toArray, List.set_cons_zero, List.set_cons_succ]
            refine wpAnyH_ready (rs := [15]) (by kernel_rfl) (by simp) ?_
            refine (AllReadyH.cons (o := { dst := none, op := Op.store 23 (Operand.tmp 134) (Operand.tmp 133), type := 0, pos := "l15_memory.go:137", after := #[{ on := 14, ground := Ground.data }, { on := 13, ground := Ground.data }, { on := 13, ground := Ground.chain }, { on := 0, ground := Ground.phase }, { on := 1, ground := Ground.phase }, { on := 2, ground := Ground.phase }, { on := 3, ground := Ground.phase }, { on := 4, ground := Ground.phase }, { on := 5, ground := Ground.phase }, { on := 6, ground := Ground.phase }, { on := 7, ground := Ground.phase }, { on := 8, ground := Ground.phase }, { on := 9, ground := Ground.phase }, { on := 10, ground := Ground.phase }, { on := 11, ground := Ground.phase }, { on := 12, ground := Ground.phase }, { on := 13, ground := Ground.phase }], guard := none }) rfl (fun K hK => ?_) AllReadyH.nil)
            refine step_skip (w4.setCell ⟨gm, s, none⟩ v4) (by rfl) (by obtain ⟨a4, k4, hv4, _⟩ := R4.arow; rw [hv4]; go_simp) ?_
            refine hK.out _ _ ⟨CN.c4, CN.c0⟩ (fun hH' => ?_)
            clear hK K hH' hH
            refine wpAnyH_done (by kernel_rfl) ?_ _
            go_wp2
            go_ret2
            exact ⟨by rw [hH2.out, hO2.out, HRR.out]; rfl, by rw [hC2.out, HRR.out]; exact CN, _, by rw [hL2.out, HRR.out]; exact KN, FN⟩
        · have hpI : ¬ (p : Int) = 3 := by omega
          have HRR : Hid (R1 = (cut lL 0 ++ [nn], coin, false, lL.getD 0 0)) := by show _ = _; rw [hR.out]; unfold step1; rw [if_neg hin, if_pos (by rw [HLN.out]; exact hfull), if_neg hpI]
          have HQ0 : Hid (∀ w', Below WA.heap.size WA w' → ARow w' (.slice (some ⟨g, 0, none⟩) ln cr) lL) := fun w' b => (HRA.out w' b).arow
          have hcg : WA.cell? ⟨g, 0, none⟩ = some (.int .i64 (lL.getD 0 0)) := by
            obtain ⟨oa, oc, hv, hcell⟩ := HQ0.out WA (Below.refl _ _)
            injection hv with hv1 hv2 hv3
            obtain ⟨g', o', e1, hc⟩ := hcell 0 (by rw [HLN.out]; exact hk)
            rw [← hv1] at e1
            injection e1 with e1
            injection e1 with e1 e2
            subst e1; subst e2
            exact hc
          have z0 : (0 : Int) < (ln : Int) := by omega
          have z1 : (1 : Int) ≤ (ln : Int) := by omega
          have z2 : (ln : Int) ≤ (cr : Int) := by omega
          have z3 : (0 : Int) ≤ (cr : Int) := by omega
          have z4 : (1 : Int) ≤ (cr : Int) := by omega
          clear hin hR hfull hp hfI
          go_wp2
          by_cases hcr : cr = 0 + 1
          · subst hcr
            generalize hWX : (WA).drew = WX
            have BX : Below (WA).heap.size (WA) WX := by rw [← hWX]; exact below_drew (Below.refl _ _)
            have HQ := Hid.mk (HQ0.out _ BX)
            refine wp_region_held_drew (S := fun _ => True) (by kernel_rfl) trivial (fun hH => ?_)
            rw [hWX]
            clear hWX
            refine wpAnyH_take (i := 1) (oi := { dst := some 111, op := Op.move (Operand.tmp 7), type := 23, pos := "l15_memory.go:135", after := #[], guard := none }) (v := .slice (some ⟨g, 0, none⟩) ln (0 + 1)) rfl (by kernel_rfl) (by kernel_rfl) (by kernel_rfl) (fun _ _ _ h => h) (Or.inl ⟨by rfl, fun w0 hSw => by (go_simp)⟩) hH ?_
            simp only [Act.put, List.setIfInBounds_toArray, List.set_cons_zero, List.set_cons_succ]
            refine wpAnyH_take (i := 2) (oi := { dst := some 112, op := Op.move (Operand.tmp 12), type := 3, pos := "l15_memory.go:135", after := #[], guard := none }) (v := .int .i64 ((0 : Nat) : Int)) rfl (by kernel_rfl) (by kernel_rfl) (by kernel_rfl) (fun _ _ _ h => h) (Or.inl ⟨by rfl, fun w0 hSw => by (go_simp)⟩) hH ?_
            simp only [Act.put, List.setIfInBounds_toArray, List.set_cons_zero, List.set_cons_succ]
            refine wpAnyH_take (i := 3) (oi := { dst := some 113, op := Op.slice 23 (Operand.tmp 111) none (some (Operand.tmp 112)) none, type := 23, pos := "l15_memory.go:135", after := #[{ on := 1, ground := Ground.data }, { on := 2, ground := Ground.data }], guard := none }) (v := .slice (some ⟨g, 0, none⟩) 0 (0 + 1)) rfl (by kernel_rfl) (by kernel_rfl) (by kernel_rfl) (fun _ _ _ h => h) (Or.inl ⟨by rfl, fun w0 hSw => by (go_simp <;> first | (intro h; exfalso; omega) | exact (IntKind.wrap_i64 _).trans (by omega) | omega)⟩) hH ?_
            simp only [Act.put, List.setIfInBounds_toArray, List.set_cons_zero, List.set_cons_succ]
            refine wpAnyH_take (i := 5) (oi := { dst := some 115, op := Op.move (Operand.tmp 7), type := 23, pos := "l15_memory.go:135", after := #[], guard := none }) (v := .slice (some ⟨g, 0, none⟩) ln (0 + 1)) rfl (by kernel_rfl) (by kernel_rfl) (by kernel_rfl) (fun _ _ _ h => h) (Or.inl ⟨by rfl, fun w0 hSw => by (go_simp)⟩) hH ?_
            simp only [Act.put, List.setIfInBounds_toArray, List.set_cons_zero, List.set_cons_succ]
            refine wpAnyH_take (i := 6) (oi := { dst := some 116, op := Op.move (Operand.tmp 12), type := 3, pos := "l15_memory.go:135", after := #[], guard := none }) (v := .int .i64 ((0 : Nat) : Int)) rfl (by kernel_rfl) (by kernel_rfl) (by kernel_rfl) (fun _ _ _ h => h) (Or.inl ⟨by rfl, fun w0 hSw => by (go_simp)⟩) hH ?_
            simp only [Act.put, List.setIfInBounds_toArray, List.set_cons_zero, List.set_cons_succ]
            refine wpAnyH_take (i := 7) (oi := { dst := some 117, op := Op.binOp BinOp.add 3 (Operand.tmp 116) (Operand.const (Value.int IntKind.i64 1)) 3, type := 3, pos := "l15_memory.go:135", after := #[{ on := 6, ground := Ground.data }], guard := none }) (v := .int .i64 (((0 : Nat) : Int) + 1)) rfl (by kernel_rfl) (by kernel_rfl) (by kernel_rfl) (fun _ _ _ h => h) (Or.inl ⟨by rfl, fun w0 hSw => by (go_simp <;> first | (intro h; exfalso; omega) | exact (IntKind.wrap_i64 _).trans (by omega) | omega)⟩) hH ?_
            simp only [Act.put, List.setIfInBounds_toArray, List.set_cons_zero, List.set_cons_succ]
            refine wpAnyH_take (i := 8) (oi := { dst := some 118, op := Op.slice 23 (Operand.tmp 115) (some (Operand.tmp 117)) none none, type := 23, pos := "l15_memory.go:135", after := #[{ on := 5, ground := Ground.data }, { on := 7, ground := Ground.data }], guard := none }) (v := .slice (some ⟨g, 0, none⟩) 0 0) rfl (by kernel_rfl) (by kernel_rfl) (by kernel_rfl) (fun _ _ _ h => h) (Or.inl ⟨by rfl, fun w0 hSw => by (go_simp <;> first | (intro h; exfalso; omega) | exact (IntKind.wrap_i64 _).trans (by omega) | omega)⟩) hH ?_
            simp only [Act.put, List.setIfInBounds_toArray, List.set_cons_zero, List.set_cons_succ]
            refine wpAnyH_ready (rs := [0]) (by kernel_rfl) (by simp) ?_
            refine (AllReadyH.cons (o := { dst := some 110, op := Op.buildSlice 23 0 #[], type := 23, pos := "l15_memory.go:135", after := #[], guard := none }) rfl (fun K hK => ?_) AllReadyH.nil)
            refine step_val (.slice (some ⟨WX.heap.size, 0, none⟩) 0 0) (WX.alloc (.cells #[] 3)) (by rfl) (by go_simp) ?_
            simp only [Act.put, List.setIfInBounds_toArray, List.set_cons_zero, List.set_cons_succ]
            refine hK.out _ _ trivial (fun hH' => ?_)
            clear hK K
            replace hH := hH'
            clear hH'
            have R1 := Ri.empty WX.heap.size WX (Nat.le_refl _)
            have Q1 := HQ.out.next (alloc_b (o := .cells #[] 3))
            have B1 : Below WX.heap.size WX (WX.alloc (.cells #[] 3)) := alloc_b
            refine wpAnyH_ready (rs := [4]) (by kernel_rfl) (by simp) ?_
            refine (AllReadyH.cons (o := { dst := some 114, op := Op.call { callee := Callee.builtin Builtin.append, args := #[Operand.tmp 110, Operand.tmp 113], argTypes := #[23, 23] }, type := 23, pos := "l15_memory.go:135", after := #[{ on := 0, ground := Ground.data }, { on := 3, ground := Ground.data }], guard := none }) rfl (fun K hK => ?_) AllReadyH.nil)
            obtain ⟨v2, w2, hr2, R2, G2, _⟩ := run_append_ri (P := Try.prog) 23 Try.underlying23 hi3 hz30 hz31 hz32 R1 (Q1.take 0 (Nat.le_of_lt hk) (0 + 1)) (by have h9 := HLN.out; first | (simp; done) | (simp; omega))
            refine step_app (.tmp 110) (.tmp 113) 23 _ _ v2 w2 (by rfl) (by rfl) (by rfl) (by rfl) hr2 ?_
            simp only [Act.put, List.setIfInBounds_toArray, List.set_cons_zero, List.set_cons_succ]
            refine hK.out _ _ trivial (fun hH' => ?_)
            clear hK K
            replace hH := hH'
            clear hH'
            have B2 : Below WX.heap.size WX w2 := B1.grown G2 B1.size (fun g hg => (R1.lt g hg).1)
            have Q2 := ARow.none w2 (some ⟨g, 0, none⟩) 0 (L := lL.drop (0 + 1)) (List.drop_eq_nil_of_le (by have := HLN.out; omega))
            clear hr2 G2 R1 Q1 B1
            refine wpAnyH_ready (rs := [9]) (by kernel_rfl) (by simp) ?_
            refine (AllReadyH.cons (o := { dst := some 119, op := Op.call { callee := Callee.builtin Builtin.append, args := #[Operand.tmp 114, Operand.tmp 118], argTypes := #[23, 23] }, type := 23, pos := "l15_memory.go:135", after := #[{ on := 4, ground := Ground.data }, { on := 8, ground := Ground.data }, { on := 4, ground := Ground.chain }], guard := none }) rfl (fun K hK => ?_) AllReadyH.nil)
            obtain ⟨v3, w3, hr3, R3, G3, _⟩ := run_append_ri (P := Try.prog) 23 Try.underlying23 hi3 hz30 hz31 hz32 R2 Q2 (by have h9 := HLN.out; first | (simp; done) | (simp; omega))
            refine step_app (.tmp 114) (.tmp 118) 23 _ _ v3 w3 (by rfl) (by rfl) (by rfl) (by rfl) hr3 ?_
            simp only [Act.put, List.setIfInBounds_toArray, List.set_cons_zero, List.set_cons_succ]
            refine hK.out _ _ trivial (fun hH' => ?_)
            clear hK K
            replace hH := hH'
            clear hH'
            have B3 : Below WX.heap.size WX w3 := B2.grown G3 B2.size (fun g hg => (R2.lt g hg).1)
            have R3c : Ri WX.heap.size w3 v3 (cut lL 0) := by have h := R3; rw [List.nil_append] at h; exact h
            clear hr3 G3 R2 Q2 B2 R3
            refine wpAnyH_take (i := 10) (oi := { dst := some 7, op := Op.assign (Operand.tmp 119), type := 23, pos := "l15_memory.go:135", after := #[{ on := 9, ground := Ground.data }, { on := 9, ground := Ground.chain }, { on := 0, ground := Ground.phase }, { on := 1, ground := Ground.phase }, { on := 2, ground := Ground.phase }, { on := 3, ground := Ground.phase }, { on := 4, ground := Ground.phase }, { on := 5, ground := Ground.phase }, { on := 6, ground := Ground.phase }, { on := 7, ground := Ground.phase }, { on := 8, ground := Ground.phase }, { on := 9, ground := Ground.phase }], guard := none }) (v := v3) rfl (by kernel_rfl) (by kernel_rfl) (by kernel_rfl) (fun _ _ _ h => h) (Or.inl ⟨by rfl, fun w0 hSw => by (go_simp)⟩) hH ?_
            simp only [Act.put, List.setIfInBounds_toArray, List.set_cons_zero, List.set_cons_succ]
            refine wpAnyH_done (by kernel_rfl) ?_ _
            have FX3 : Fr cb gm m U U w w3 := (FA).trans (Fr.ofBelow (BX.trans (B3.mono BX.size)))
            have KX3 := (KA).next (BX.trans (B3.mono BX.size))
            have CX3 := (CA).next (BX.trans (B3.mono BX.size))
            have HSW : Hid (w.heap.size ≤ WX.heap.size) := by have h1 := (FA).size; have h2 := BX.size; show _ ≤ _; omega
            have HVW : Hid (∀ q, v3.ownBlock = some q → (U s).ownBlock = some q ∨ w.heap.size ≤ q) := fun q hq => Or.inr (Nat.le_trans HSW.out (R3c.lt q hq).1)
            have HLM : Hid ((cut lL 0).length ≤ 1000) := by have h := cut_len lL 0 (by have := HLN.out; omega); have := HLN.out; show _ ≤ _; omega
            have RX3 := R3c.up (B := B) (Nat.le_trans KH.out.bg (Nat.le_of_lt (Nat.lt_of_lt_of_le KH.out.hg HSW.out)))
            clear hH B3 R3c
            go_wp2
            generalize hWW : (w3).drew = WY
            have bdy : Below (w3).heap.size (w3) WY := by rw [← hWW]; exact below_drew (Below.refl _ _)
            have KY := (KX3).next bdy
            have CY := (CX3).next bdy
            have RY := (RX3).next bdy
            have F0 : Hid (Fr cb gm m U U w WY) := (FX3).trans (Fr.ofBelow bdy)
            clear bdy
            clear KX3 CX3 RX3 FX3
            refine wp_region_held_drew (S := (fun u => u.cell? ⟨cb, 4, none⟩ = some (.slice (some ⟨gm, 0, none⟩) m cp) ∧ u.cell? ⟨cb, 0, none⟩ = some (.int .i64 (m : Int)))) (by kernel_rfl) (by rw [hWW]; exact ⟨CY.c4, CY.c0⟩) (fun hH => ?_)
            rw [hWW] at hH ⊢
            clear hWW
            refine wpAnyH_take (i := 0) (oi := { dst := some 120, op := Op.move (Operand.tmp 0), type := 82, pos := "l15_memory.go:137", after := #[], guard := none }) (v := .pointer (some ⟨cb, 0, none⟩)) rfl (by kernel_rfl) (by kernel_rfl) (by kernel_rfl) (fun _ _ _ h => h) (Or.inl ⟨by rfl, fun w0 hSw => by (go_simp)⟩) hH ?_
            simp only [Act.put, List.setIfInBounds_toArray, List.set_cons_zero, List.set_cons_succ]
            refine wpAnyH_take (i := 1) (oi := { dst := some 121, op := Op.nilCheck (Operand.tmp 120), type := 0, pos := "l15_memory.go:137", after := #[{ on := 0, ground := Ground.data }], guard := none }) (v := .pointer (some ⟨cb, 0, none⟩)) rfl (by kernel_rfl) (by kernel_rfl) (by kernel_rfl) (fun _ _ _ h => h) (Or.inl ⟨by rfl, fun w0 hSw => by (go_simp)⟩) hH ?_
            simp only [Act.put, List.setIfInBounds_toArray, List.set_cons_zero, List.set_cons_succ]
            refine wpAnyH_take (i := 2) (oi := { dst := some 122, op := Op.fieldAddr 42 (Operand.tmp 121) 4, type := 0, pos := "l15_memory.go:137", after := #[{ on := 1, ground := Ground.data }], guard := none }) (v := .pointer (some ⟨cb, 4, none⟩)) rfl (by kernel_rfl) (by kernel_rfl) (by kernel_rfl) (fun _ _ _ h => h) (Or.inl ⟨by rfl, fun w0 hSw => by (go_simp)⟩) hH ?_
            simp only [Act.put, List.setIfInBounds_toArray, List.set_cons_zero, List.set_cons_succ]
            refine wpAnyH_take (i := 3) (oi := { dst := some 123, op := Op.load 40 (Operand.tmp 122), type := 40, pos := "l15_memory.go:137", after := #[{ on := 2, ground := Ground.data }], guard := none }) (v := .slice (some ⟨gm, 0, none⟩) m cp) rfl (by kernel_rfl) (by kernel_rfl) (by kernel_rfl) (fun _ _ _ h => h) (Or.inl ⟨by rfl, fun w0 hSw => by ((have e4 := hSw.1); go_simp)⟩) hH ?_
            simp only [Act.put, List.setIfInBounds_toArray, List.set_cons_zero, List.set_cons_succ]
            refine wpAnyH_take (i := 4) (oi := { dst := some 124, op := Op.move (Operand.tmp 6), type := 3, pos := "l15_memory.go:137", after := #[], guard := none }) (v := .int .i64 nn) rfl (by kernel_rfl) (by kernel_rfl) (by kernel_rfl) (fun _ _ _ h => h) (Or.inl ⟨by rfl, fun w0 hSw => by (go_simp)⟩) hH ?_
            simp only [Act.put, List.setIfInBounds_toArray, List.set_cons_zero, List.set_cons_succ]
            refine wpAnyH_take (i := 5) (oi := { dst := some 125, op := Op.move (Operand.tmp 0), type := 82, pos := "l15_memory.go:137", after := #[], guard := none }) (v := .pointer (some ⟨cb, 0, none⟩)) rfl (by kernel_rfl) (by kernel_rfl) (by kernel_rfl) (fun _ _ _ h => h) (Or.inl ⟨by rfl, fun w0 hSw => by (go_simp)⟩) hH ?_
            simp only [Act.put, List.setIfInBounds_toArray, List.set_cons_zero, List.set_cons_succ]
            refine wpAnyH_take (i := 6) (oi := { dst := some 126, op := Op.nilCheck (Operand.tmp 125), type := 0, pos := "l15_memory.go:137", after := #[{ on := 5, ground := Ground.data }], guard := none }) (v := .pointer (some ⟨cb, 0, none⟩)) rfl (by kernel_rfl) (by kernel_rfl) (by kernel_rfl) (fun _ _ _ h => h) (Or.inl ⟨by rfl, fun w0 hSw => by (go_simp)⟩) hH ?_
            simp only [Act.put, List.setIfInBounds_toArray, List.set_cons_zero, List.set_cons_succ]
            refine wpAnyH_take (i := 7) (oi := { dst := some 127, op := Op.fieldAddr 42 (Operand.tmp 126) 0, type := 0, pos := "l15_memory.go:137", after := #[{ on := 6, ground := Ground.data }], guard := none }) (v := .pointer (some ⟨cb, 0, none⟩)) rfl (by kernel_rfl) (by kernel_rfl) (by kernel_rfl) (fun _ _ _ h => h) (Or.inl ⟨by rfl, fun w0 hSw => by (go_simp)⟩) hH ?_
            simp only [Act.put, List.setIfInBounds_toArray, List.set_cons_zero, List.set_cons_succ]
            refine wpAnyH_take (i := 8) (oi := { dst := some 128, op := Op.load 3 (Operand.tmp 127), type := 3, pos := "l15_memory.go:137", after := #[{ on := 7, ground := Ground.data }], guard := none }) (v := .int .i64 (m : Int)) rfl (by kernel_rfl) (by kernel_rfl) (by kernel_rfl) (fun _ _ _ h => h) (Or.inl ⟨by rfl, fun w0 hSw => by ((have e4 := hSw.2); go_simp)⟩) hH ?_
            simp only [Act.put, List.setIfInBounds_toArray, List.set_cons_zero, List.set_cons_succ]
            refine wpAnyH_take (i := 9) (oi := { dst := some 129, op := Op.binOp BinOp.rem 3 (Operand.tmp 124) (Operand.tmp 128) 3, type := 3, pos := "l15_memory.go:137", after := #[{ on := 4, ground := Ground.data }, { on := 8, ground := Ground.data }], guard := none }) (v := .int .i64 (s : Int)) rfl (by kernel_rfl) (by kernel_rfl) (by kernel_rfl) (fun _ _ _ h => h) (Or.inl ⟨by rfl, fun w0 hSw => by (go_simp <;> first | (intro h; exfalso; omega) | exact (IntKind.wrap_i64 _).trans (by omega) | omega)⟩) hH ?_
            simp only [Act.put, List.setIfInBounds_toArray, List.set_cons_zero, List.set_cons_succ]
            refine wpAnyH_take (i := 10) (oi := { dst := some 130, op := Op.move (Operand.tmp 7), type := 23, pos := "l15_memory.go:137", after := #[], guard := none }) (v := v3) rfl (by kernel_rfl) (by kernel_rfl) (by kernel_rfl) (fun _ _ _ h => h) (Or.inl ⟨by rfl, fun w0 hSw => by (go_simp)⟩) hH ?_
            simp only [Act.put, List.setIfInBounds_toArray, List.set_cons_zero, List.set_cons_succ]
            refine wpAnyH_take (i := 11) (oi := { dst := some 131, op := Op.move (Operand.tmp 6), type := 3, pos := "l15_memory.go:137", after := #[], guard := none }) (v := .int .i64 nn) rfl (by kernel_rfl) (by kernel_rfl) (by kernel_rfl) (fun _ _ _ h => h) (Or.inl ⟨by rfl, fun w0 hSw => by (go_simp)⟩) hH ?_
            simp only [Act.put, List.setIfInBounds_toArray, List.set_cons_zero, List.set_cons_succ]
            refine wpAnyH_ready (rs := [12]) (by kernel_rfl) (by simp) ?_
            refine (AllReadyH.cons (o := { dst := some 132, op := Op.buildSlice 23 1 #[(0, Operand.tmp 131)], type := 23, pos := "l15_memory.go:137", after := #[{ on := 11, ground := Ground.data }], guard := none }) rfl (fun K hK => ?_) AllReadyH.nil)
            refine step_val (.slice (some ⟨WY.heap.size, 0, none⟩) 1 1) (WY.alloc (.cells #[.int .i64 nn] 3)) (by rfl) (by go_simp) ?_
            simp only [Act.put, List.setIfInBounds_toArray, List.set_cons_zero, List.set_cons_succ]
            refine hK.out _ _ ⟨cell_nx CY.c4 alloc_b, cell_nx CY.c0 alloc_b⟩ (fun hH' => ?_)
            clear hK K
            replace hH := hH'
            clear hH'
            have V1 := RY.next (alloc_b (o := .cells #[.int .i64 nn] 3))
            refine wpAnyH_ready (rs := [13]) (by kernel_rfl) (by simp) ?_
            refine (AllReadyH.cons (o := { dst := some 133, op := Op.call { callee := Callee.builtin Builtin.append, args := #[Operand.tmp 130, Operand.tmp 132], argTypes := #[23, 23] }, type := 23, pos := "l15_memory.go:137", after := #[{ on := 10, ground := Ground.data }, { on := 12, ground := Ground.data }], guard := none }) rfl (fun K hK => ?_) AllReadyH.nil)
            obtain ⟨v4, w4, hr4, R4, G4, A4⟩ := run_append_ri (P := Try.prog) 23 Try.underlying23 hi3 hz30 hz31 hz32 V1 (ARow.one WY nn) (by have := HLM.out; simp; omega)
            obtain ⟨cg4, fg4, hb4, sz4, hb5, KN, FN⟩ := Kx.laid KH.out F0.out KY hs HVW.out (fun q hq => (RY.lt q hq).2) G4 A4 R4
            have C4 := CY.block hb4 sz4
            have CN := CY.block hb5 (by simpa using sz4)
            refine step_app (.tmp 130) (.tmp 132) 23 _ _ v4 w4 (by rfl) (by rfl) (by rfl) (by rfl) hr4 ?_
            simp only [Act.put, List.setIfInBounds_toArray, List.set_cons_zero, List.set_cons_succ]
            refine hK.out _ _ ⟨C4.c4, C4.c0⟩ (fun hH' => ?_)
            clear hK K
            replace hH := hH'
            clear hH' hr4 V1 G4 A4
            refine wpAnyH_take (i := 14) (oi := { dst := some 134, op := Op.indexAddr 40 (Operand.tmp 123) (Operand.tmp 129), type := 0, pos := "l15_memory.go:137", after := #[{ on := 3, ground := Ground.data }, { on := 9, ground := Ground.data }, { on := 0, ground := Ground.phase }, { on := 1, ground := Ground.phase }, { on := 2, ground := Ground.phase }, { on := 3, ground := Ground.phase }, { on := 4, ground := Ground.phase }, { on := 5, ground := Ground.phase }, { on := 6, ground := Ground.phase }, { on := 7, ground := Ground.phase }, { on := 8, ground := Ground.phase }, { on := 9, ground := Ground.phase }, { on := 10, ground := Ground.phase }, { on := 11, ground := Ground.phase }, { on := 12, ground := Ground.phase }, { on := 13, ground := Ground.phase }], guard := none }) (v := .pointer (some ⟨gm, s, none⟩)) rfl (by kernel_rfl) (by kernel_rfl) (by kernel_rfl) (fun _ _ _ h => h) (Or.inl ⟨by rfl, fun w0 hSw => by (go_simp)⟩) hH ?_
            simp only [Act.put, List.setIfInBounds_toArray, List.set_cons_zero, List.set_cons_succ]
            refine wpAnyH_ready (rs := [15]) (by kernel_rfl) (by simp) ?_
            refine (AllReadyH.cons (o := { dst := none, op := Op.store 23 (Operand.tmp 134) (Operand.tmp 133), type := 0, pos := "l15_memory.go:137", after := #[{ on := 14, ground := Ground.data }, { on := 13, ground := Ground.data }, { on := 13, ground := Ground.chain }, { on := 0, ground := Ground.phase }, { on := 1, ground := Ground.phase }, { on := 2, ground := Ground.phase }, { on := 3, ground := Ground.phase }, { on := 4, ground := Ground.phase }, { on := 5, ground := Ground.phase }, { on := 6, ground := Ground.phase }, { on := 7, ground := Ground.phase }, { on := 8, ground := Ground.phase }, { on := 9, ground := Ground.phase }, { on := 10, ground := Ground.phase }, { on := 11, ground := Ground.phase }, { on := 12, ground := Ground.phase }, { on := 13, ground := Ground.phase }], guard := none }) rfl (fun K hK => ?_) AllReadyH.nil)
            refine step_skip (w4.setCell ⟨gm, s, none⟩ v4) (by rfl) (by obtain ⟨a4, k4, hv4, _⟩ := R4.arow; rw [hv4]; go_simp) ?_
            refine hK.out _ _ ⟨CN.c4, CN.c0⟩ (fun hH' => ?_)
            clear hK K hH' hH
            refine wpAnyH_done (by kernel_rfl) ?_ _
            go_wp2
            go_ret2
            exact ⟨by rw [hH2.out, hO2.out, HRR.out]; rfl, by rw [hC2.out, HRR.out]; exact CN, _, by rw [hL2.out, HRR.out]; exact KN, FN⟩
          · generalize hWX : (WA).drew = WX
            have BX : Below (WA).heap.size (WA) WX := by rw [← hWX]; exact below_drew (Below.refl _ _)
            have HQ := Hid.mk (HQ0.out _ BX)
            refine wp_region_held_drew (S := fun _ => True) (by kernel_rfl) trivial (fun hH => ?_)
            rw [hWX]
            clear hWX
            refine wpAnyH_take (i := 1) (oi := { dst := some 111, op := Op.move (Operand.tmp 7), type := 23, pos := "l15_memory.go:135", after := #[], guard := none }) (v := .slice (some ⟨g, 0, none⟩) ln cr) rfl (by kernel_rfl) (by kernel_rfl) (by kernel_rfl) (fun _ _ _ h => h) (Or.inl ⟨by rfl, fun w0 hSw => by (go_simp)⟩) hH ?_
            simp only [Act.put, List.setIfInBounds_toArray, List.set_cons_zero, List.set_cons_succ]
            refine wpAnyH_take (i := 2) (oi := { dst := some 112, op := Op.move (Operand.tmp 12), type := 3, pos := "l15_memory.go:135", after := #[], guard := none }) (v := .int .i64 ((0 : Nat) : Int)) rfl (by kernel_rfl) (by kernel_rfl) (by kernel_rfl) (fun _ _ _ h => h) (Or.inl ⟨by rfl, fun w0 hSw => by (go_simp)⟩) hH ?_
            simp only [Act.put, List.setIfInBounds_toArray, List.set_cons_zero, List.set_cons_succ]
            refine wpAnyH_take (i := 3) (oi := { dst := some 113, op := Op.slice 23 (Operand.tmp 111) none (some (Operand.tmp 112)) none, type := 23, pos := "l15_memory.go:135", after := #[{ on := 1, ground := Ground.data }, { on := 2, ground := Ground.data }], guard := none }) (v := .slice (some ⟨g, 0, none⟩) 0 cr) rfl (by kernel_rfl) (by kernel_rfl) (by kernel_rfl) (fun _ _ _ h => h) (Or.inl ⟨by rfl, fun w0 hSw => by (go_simp <;> first | (intro h; exfalso; omega) | exact (IntKind.wrap_i64 _).trans (by omega) | omega)⟩) hH ?_
            simp only [Act.put, List.setIfInBounds_toArray, List.set_cons_zero, List.set_cons_succ]
            refine wpAnyH_take (i := 5) (oi := { dst := some 115, op := Op.move (Operand.tmp 7), type := 23, pos := "l15_memory.go:135", after := #[], guard := none }) (v := .slice (some ⟨g, 0, none⟩) ln cr) rfl (by kernel_rfl) (by kernel_rfl) (by kernel_rfl) (fun _ _ _ h => h) (Or.inl ⟨by rfl, fun w0 hSw => by (go_simp)⟩) hH ?_
            simp only [Act.put, List.setIfInBounds_toArray, List.set_cons_zero, List.set_cons_succ]
            refine wpAnyH_take (i := 6) (oi := { dst := some 116, op := Op.move (Operand.tmp 12), type := 3, pos := "l15_memory.go:135", after := #[], guard := none }) (v := .int .i64 ((0 : Nat) : Int)) rfl (by kernel_rfl) (by kernel_rfl) (by kernel_rfl) (fun _ _ _ h => h) (Or.inl ⟨by rfl, fun w0 hSw => by (go_simp)⟩) hH ?_
            simp only [Act.put, List.setIfInBounds_toArray, List.set_cons_zero, List.set_cons_succ]
            refine wpAnyH_take (i := 7) (oi := { dst := some 117, op := Op.binOp BinOp.add 3 (Operand.tmp 116) (Operand.const (Value.int IntKind.i64 1)) 3, type := 3, pos := "l15_memory.go:135", after := #[{ on := 6, ground := Ground.data }], guard := none }) (v := .int .i64 (((0 : Nat) : Int) + 1)) rfl (by kernel_rfl) (by kernel_rfl) (by kernel_rfl) (fun _ _ _ h => h) (Or.inl ⟨by rfl, fun w0 hSw => by (go_simp <;> first | (intro h; exfalso; omega) | exact (IntKind.wrap_i64 _).trans (by omega) | omega)⟩) hH ?_
            simp only [Act.put, List.setIfInBounds_toArray, List.set_cons_zero, List.set_cons_succ]
            refine wpAnyH_take (i := 8) (oi := { dst := some 118, op := Op.slice 23 (Operand.tmp 115) (some (Operand.tmp 117)) none none, type := 23, pos := "l15_memory.go:135", after := #[{ on := 5, ground := Ground.data }, { on := 7, ground := Ground.data }], guard := none }) (v := .slice (some ⟨g, 0 + 1, none⟩) (ln - (0 + 1)) (cr - (0 + 1))) rfl (by kernel_rfl) (by kernel_rfl) (by kernel_rfl) (fun _ _ _ h => h) (Or.inl ⟨by rfl, fun w0 hSw => by (go_simp <;> first | (intro h; exfalso; omega) | exact (IntKind.wrap_i64 _).trans (by omega) | omega)⟩) hH ?_
            simp only [Act.put, List.setIfInBounds_toArray, List.set_cons_zero, List.set_cons_succ]
            refine wpAnyH_ready (rs := [0]) (by kernel_rfl) (by simp) ?_
            refine (AllReadyH.cons (o := { dst := some 110, op := Op.buildSlice 23 0 #[], type := 23, pos := "l15_memory.go:135", after := #[], guard := none }) rfl (fun K hK => ?_) AllReadyH.nil)
            refine step_val (.slice (some ⟨WX.heap.size, 0, none⟩) 0 0) (WX.alloc (.cells #[] 3)) (by rfl) (by go_simp) ?_
            simp only [Act.put, List.setIfInBounds_toArray, List.set_cons_zero, List.set_cons_succ]
            refine hK.out _ _ trivial (fun hH' => ?_)
            clear hK K
            replace hH := hH'
            clear hH'
            have R1 := Ri.empty WX.heap.size WX (Nat.le_refl _)
            have Q1 := HQ.out.next (alloc_b (o := .cells #[] 3))
            have B1 : Below WX.heap.size WX (WX.alloc (.cells #[] 3)) := alloc_b
            refine wpAnyH_ready (rs := [4]) (by kernel_rfl) (by simp) ?_
            refine (AllReadyH.cons (o := { dst := some 114, op := Op.call { callee := Callee.builtin Builtin.append, args := #[Operand.tmp 110, Operand.tmp 113], argTypes := #[23, 23] }, type := 23, pos := "l15_memory.go:135", after := #[{ on := 0, ground := Ground.data }, { on := 3, ground := Ground.data }], guard := none }) rfl (fun K hK => ?_) AllReadyH.nil)
            obtain ⟨v2, w2, hr2, R2, G2, _⟩ := run_append_ri (P := Try.prog) 23 Try.underlying23 hi3 hz30 hz31 hz32 R1 (Q1.take 0 (Nat.le_of_lt hk) cr) (by have h9 := HLN.out; first | (simp; done) | (simp; omega))
            refine step_app (.tmp 110) (.tmp 113) 23 _ _ v2 w2 (by rfl) (by rfl) (by rfl) (by rfl) hr2 ?_
            simp only [Act.put, List.setIfInBounds_toArray, List.set_cons_zero, List.set_cons_succ]
            refine hK.out _ _ trivial (fun hH' => ?_)
            clear hK K
            replace hH := hH'
            clear hH'
            have B2 : Below WX.heap.size WX w2 := B1.grown G2 B1.size (fun g hg => (R1.lt g hg).1)
            have Q2 := (show ARow w2 (.slice (some ⟨g, 0 + 1, none⟩) (ln - (0 + 1)) (cr - (0 + 1))) (lL.drop (0 + 1)) by have h := (HQ.out.next B2).drop (0 + 1) (cr - (0 + 1)); rwa [Nat.zero_add] at h)
            clear hr2 G2 R1 Q1 B1
            refine wpAnyH_ready (rs := [9]) (by kernel_rfl) (by simp) ?_
            refine (AllReadyH.cons (o := { dst := some 119, op := Op.call { callee := Callee.builtin Builtin.append, args := #[Operand.tmp 114, Operand.tmp 118], argTypes := #[23, 23] }, type := 23, pos := "l15_memory.go:135", after := #[{ on := 4, ground := Ground.data }, { on := 8, ground := Ground.data }, { on := 4, ground := Ground.chain }], guard := none }) rfl (fun K hK => ?_) AllReadyH.nil)
            obtain ⟨v3, w3, hr3, R3, G3, _⟩ := run_append_ri (P := Try.prog) 23 Try.underlying23 hi3 hz30 hz31 hz32 R2 Q2 (by have h9 := HLN.out; first | (simp; done) | (simp; omega))
            refine step_app (.tmp 114) (.tmp 118) 23 _ _ v3 w3 (by rfl) (by rfl) (by rfl) (by rfl) hr3 ?_
            simp only [Act.put, List.setIfInBounds_toArray, List.set_cons_zero, List.set_cons_succ]
            refine hK.out _ _ trivial (fun hH' => ?_)
            clear hK K
            replace hH := hH'
            clear hH'
            have B3 : Below WX.heap.size WX w3 := B2.grown G3 B2.size (fun g hg => (R2.lt g hg).1)
            have R3c : Ri WX.heap.size w3 v3 (cut lL 0) := by have h := R3; rw [List.nil_append] at h; exact h
            clear hr3 G3 R2 Q2 B2 R3
            refine wpAnyH_take (i := 10) (oi := { dst := some 7, op := Op.assign (Operand.tmp 119), type := 23, pos := "l15_memory.go:135", after := #[{ on := 9, ground := Ground.data }, { on := 9, ground := Ground.chain }, { on := 0, ground := Ground.phase }, { on := 1, ground := Ground.phase }, { on := 2, ground := Ground.phase }, { on := 3, ground := Ground.phase }, { on := 4, ground := Ground.phase }, { on := 5, ground := Ground.phase }, { on := 6, ground := Ground.phase }, { on := 7, ground := Ground.phase }, { on := 8, ground := Ground.phase }, { on := 9, ground := Ground.phase }], guard := none }) (v := v3) rfl (by kernel_rfl) (by kernel_rfl) (by kernel_rfl) (fun _ _ _ h => h) (Or.inl ⟨by rfl, fun w0 hSw => by (go_simp)⟩) hH ?_
            simp only [Act.put, List.setIfInBounds_toArray, List.set_cons_zero, List.set_cons_succ]
            refine wpAnyH_done (by kernel_rfl) ?_ _
            have FX3 : Fr cb gm m U U w w3 := (FA).trans (Fr.ofBelow (BX.trans (B3.mono BX.size)))
            have KX3 := (KA).next (BX.trans (B3.mono BX.size))
            have CX3 := (CA).next (BX.trans (B3.mono BX.size))
            have HSW : Hid (w.heap.size ≤ WX.heap.size) := by have h1 := (FA).size; have h2 := BX.size; show _ ≤ _; omega
            have HVW : Hid (∀ q, v3.ownBlock = some q → (U s).ownBlock = some q ∨ w.heap.size ≤ q) := fun q hq => Or.inr (Nat.le_trans HSW.out (R3c.lt q hq).1)
            have HLM : Hid ((cut lL 0).length ≤ 1000) := by have h := cut_len lL 0 (by have := HLN.out; omega); have := HLN.out; show _ ≤ _; omega
            have RX3 := R3c.up (B := B) (Nat.le_trans KH.out.bg (Nat.le_of_lt (Nat.lt_of_lt_of_le KH.out.hg HSW.out)))
            clear hH B3 R3c
            go_wp2
            generalize hWW : (w3).drew = WY
            have bdy : Below (w3).heap.size (w3) WY := by rw [← hWW]; exact below_drew (Below.refl _ _)
            have KY := (KX3).next bdy
            have CY := (CX3).next bdy
            have RY := (RX3).next bdy
            have F0 : Hid (Fr cb gm m U U w WY) := (FX3).trans (Fr.ofBelow bdy)
            clear bdy
            clear KX3 CX3 RX3 FX3
            refine wp_region_held_drew (S := (fun u => u.cell? ⟨cb, 4, none⟩ = some (.slice (some ⟨gm, 0, none⟩) m cp) ∧ u.cell? ⟨cb, 0, none⟩ = some (.int .i64 (m : Int)))) (by kernel_rfl) (by rw [hWW]; exact ⟨CY.c4, CY.c0⟩) (fun hH => ?_)
            rw [hWW] at hH ⊢
            clear hWW
            refine wpAnyH_take (i := 0) (oi := { dst := some 120, op := Op.move (Operand.tmp 0), type := 82, pos := "l15_memory.go:137", after := #[], guard := none }) (v := .pointer (some ⟨cb, 0, none⟩)) rfl (by kernel_rfl) (by kernel_rfl) (by kernel_rfl) (fun _ _ _ h => h) (Or.inl ⟨by rfl, fun w0 hSw => by (go_simp)⟩) hH ?_
            simp only [Act.put, List.setIfInBounds_toArray, List.set_cons_zero, List.set_cons_succ]
            refine wpAnyH_take (i := 1) (oi := { dst := some 121, op := Op.nilCheck (Operand.tmp 120), type := 0, pos := "l15_memory.go:137", after := #[{ on := 0, ground := Ground.data }], guard := none }) (v := .pointer (some ⟨cb, 0, none⟩)) rfl (by kernel_rfl) (by kernel_rfl) (by kernel_rfl) (fun _ _ _ h => h) (Or.inl ⟨by rfl, fun w0 hSw => by (go_simp)⟩) hH ?_
            simp only [Act.put, List.setIfInBounds_toArray, List.set_cons_zero, List.set_cons_succ]
            refine wpAnyH_take (i := 2) (oi := { dst := some 122, op := Op.fieldAddr 42 (Operand.tmp 121) 4, type := 0, pos := "l15_memory.go:137", after := #[{ on := 1, ground := Ground.data }], guard := none }) (v := .pointer (some ⟨cb, 4, none⟩)) rfl (by kernel_rfl) (by kernel_rfl) (by kernel_rfl) (fun _ _ _ h => h) (Or.inl ⟨by rfl, fun w0 hSw => by (go_simp)⟩) hH ?_
            simp only [Act.put, List.setIfInBounds_toArray, List.set_cons_zero, List.set_cons_succ]
            refine wpAnyH_take (i := 3) (oi := { dst := some 123, op := Op.load 40 (Operand.tmp 122), type := 40, pos := "l15_memory.go:137", after := #[{ on := 2, ground := Ground.data }], guard := none }) (v := .slice (some ⟨gm, 0, none⟩) m cp) rfl (by kernel_rfl) (by kernel_rfl) (by kernel_rfl) (fun _ _ _ h => h) (Or.inl ⟨by rfl, fun w0 hSw => by ((have e4 := hSw.1); go_simp)⟩) hH ?_
            simp only [Act.put, List.setIfInBounds_toArray, List.set_cons_zero, List.set_cons_succ]
            refine wpAnyH_take (i := 4) (oi := { dst := some 124, op := Op.move (Operand.tmp 6), type := 3, pos := "l15_memory.go:137", after := #[], guard := none }) (v := .int .i64 nn) rfl (by kernel_rfl) (by kernel_rfl) (by kernel_rfl) (fun _ _ _ h => h) (Or.inl ⟨by rfl, fun w0 hSw => by (go_simp)⟩) hH ?_
            simp only [Act.put, List.setIfInBounds_toArray, List.set_cons_zero, List.set_cons_succ]
            refine wpAnyH_take (i := 5) (oi := { dst := some 125, op := Op.move (Operand.tmp 0), type := 82, pos := "l15_memory.go:137", after := #[], guard := none }) (v := .pointer (some ⟨cb, 0, none⟩)) rfl (by kernel_rfl) (by kernel_rfl) (by kernel_rfl) (fun _ _ _ h => h) (Or.inl ⟨by rfl, fun w0 hSw => by (go_simp)⟩) hH ?_
            simp only [Act.put, List.setIfInBounds_toArray, List.set_cons_zero, List.set_cons_succ]
            refine wpAnyH_take (i := 6) (oi := { dst := some 126, op := Op.nilCheck (Operand.tmp 125), type := 0, pos := "l15_memory.go:137", after := #[{ on := 5, ground := Ground.data }], guard := none }) (v := .pointer (some ⟨cb, 0, none⟩)) rfl (by kernel_rfl) (by kernel_rfl) (by kernel_rfl) (fun _ _ _ h => h) (Or.inl ⟨by rfl, fun w0 hSw => by (go_simp)⟩) hH ?_
            simp only [Act.put, List.setIfInBounds_toArray, List.set_cons_zero, List.set_cons_succ]
            refine wpAnyH_take (i := 7) (oi := { dst := some 127, op := Op.fieldAddr 42 (Operand.tmp 126) 0, type := 0, pos := "l15_memory.go:137", after := #[{ on := 6, ground := Ground.data }], guard := none }) (v := .pointer (some ⟨cb, 0, none⟩)) rfl (by kernel_rfl) (by kernel_rfl) (by kernel_rfl) (fun _ _ _ h => h) (Or.inl ⟨by rfl, fun w0 hSw => by (go_simp)⟩) hH ?_
            simp only [Act.put, List.setIfInBounds_toArray, List.set_cons_zero, List.set_cons_succ]
            refine wpAnyH_take (i := 8) (oi := { dst := some 128, op := Op.load 3 (Operand.tmp 127), type := 3, pos := "l15_memory.go:137", after := #[{ on := 7, ground := Ground.data }], guard := none }) (v := .int .i64 (m : Int)) rfl (by kernel_rfl) (by kernel_rfl) (by kernel_rfl) (fun _ _ _ h => h) (Or.inl ⟨by rfl, fun w0 hSw => by ((have e4 := hSw.2); go_simp)⟩) hH ?_
            simp only [Act.put, List.setIfInBounds_toArray, List.set_cons_zero, List.set_cons_succ]
            refine wpAnyH_take (i := 9) (oi := { dst := some 129, op := Op.binOp BinOp.rem 3 (Operand.tmp 124) (Operand.tmp 128) 3, type := 3, pos := "l15_memory.go:137", after := #[{ on := 4, ground := Ground.data }, { on := 8, ground := Ground.data }], guard := none }) (v := .int .i64 (s : Int)) rfl (by kernel_rfl) (by kernel_rfl) (by kernel_rfl) (fun _ _ _ h => h) (Or.inl ⟨by rfl, fun w0 hSw => by (go_simp <;> first | (intro h; exfalso; omega) | exact (IntKind.wrap_i64 _).trans (by omega) | omega)⟩) hH ?_
            simp only [Act.put, List.setIfInBounds_toArray, List.set_cons_zero, List.set_cons_succ]
            refine wpAnyH_take (i := 10) (oi := { dst := some 130, op := Op.move (Operand.tmp 7), type := 23, pos := "l15_memory.go:137", after := #[], guard := none }) (v := v3) rfl (by kernel_rfl) (by kernel_rfl) (by kernel_rfl) (fun _ _ _ h => h) (Or.inl ⟨by rfl, fun w0 hSw => by (go_simp)⟩) hH ?_
            simp only [Act.put, List.setIfInBounds_toArray, List.set_cons_zero, List.set_cons_succ]
            refine wpAnyH_take (i := 11) (oi := { dst := some 131, op := Op.move (Operand.tmp 6), type := 3, pos := "l15_memory.go:137", after := #[], guard := none }) (v := .int .i64 nn) rfl (by kernel_rfl) (by kernel_rfl) (by kernel_rfl) (fun _ _ _ h => h) (Or.inl ⟨by rfl, fun w0 hSw => by (go_simp)⟩) hH ?_
            simp only [Act.put, List.setIfInBounds_toArray, List.set_cons_zero, List.set_cons_succ]
            refine wpAnyH_ready (rs := [12]) (by kernel_rfl) (by simp) ?_
            refine (AllReadyH.cons (o := { dst := some 132, op := Op.buildSlice 23 1 #[(0, Operand.tmp 131)], type := 23, pos := "l15_memory.go:137", after := #[{ on := 11, ground := Ground.data }], guard := none }) rfl (fun K hK => ?_) AllReadyH.nil)
            refine step_val (.slice (some ⟨WY.heap.size, 0, none⟩) 1 1) (WY.alloc (.cells #[.int .i64 nn] 3)) (by rfl) (by go_simp) ?_
            simp only [Act.put, List.setIfInBounds_toArray, List.set_cons_zero, List.set_cons_succ]
            refine hK.out _ _ ⟨cell_nx CY.c4 alloc_b, cell_nx CY.c0 alloc_b⟩ (fun hH' => ?_)
            clear hK K
            replace hH := hH'
            clear hH'
            have V1 := RY.next (alloc_b (o := .cells #[.int .i64 nn] 3))
            refine wpAnyH_ready (rs := [13]) (by kernel_rfl) (by simp) ?_
            refine (AllReadyH.cons (o := { dst := some 133, op := Op.call { callee := Callee.builtin Builtin.append, args := #[Operand.tmp 130, Operand.tmp 132], argTypes := #[23, 23] }, type := 23, pos := "l15_memory.go:137", after := #[{ on := 10, ground := Ground.data }, { on := 12, ground := Ground.data }], guard := none }) rfl (fun K hK => ?_) AllReadyH.nil)
            obtain ⟨v4, w4, hr4, R4, G4, A4⟩ := run_append_ri (P := Try.prog) 23 Try.underlying23 hi3 hz30 hz31 hz32 V1 (ARow.one WY nn) (by have := HLM.out; simp; omega)
            obtain ⟨cg4, fg4, hb4, sz4, hb5, KN, FN⟩ := Kx.laid KH.out F0.out KY hs HVW.out (fun q hq => (RY.lt q hq).2) G4 A4 R4
            have C4 := CY.block hb4 sz4
            have CN := CY.block hb5 (by simpa using sz4)
            refine step_app (.tmp 130) (.tmp 132) 23 _ _ v4 w4 (by rfl) (by rfl) (by rfl) (by rfl) hr4 ?_
            simp only [Act.put, List.setIfInBounds_toArray, List.set_cons_zero, List.set_cons_succ]
            refine hK.out _ _ ⟨C4.c4, C4.c0⟩ (fun hH' => ?_)
            clear hK K
            replace hH := hH'
            clear hH' hr4 V1 G4 A4
            refine wpAnyH_take (i := 14) (oi := { dst := some 134, op := Op.indexAddr 40 (Operand.tmp 123) (Operand.tmp 129), type := 0, pos := "l15_memory.go:137", after := #[{ on := 3, ground := Ground.data }, { on := 9, ground := Ground.data }, { on := 0, ground := Ground.phase }, { on := 1, ground := Ground.phase }, { on := 2, ground := Ground.phase }, { on := 3, ground := Ground.phase }, { on := 4, ground := Ground.phase }, { on := 5, ground := Ground.phase }, { on := 6, ground := Ground.phase }, { on := 7, ground := Ground.phase }, { on := 8, ground := Ground.phase }, { on := 9, ground := Ground.phase }, { on := 10, ground := Ground.phase }, { on := 11, ground := Ground.phase }, { on := 12, ground := Ground.phase }, { on := 13, ground := Ground.phase }], guard := none }) (v := .pointer (some ⟨gm, s, none⟩)) rfl (by kernel_rfl) (by kernel_rfl) (by kernel_rfl) (fun _ _ _ h => h) (Or.inl ⟨by rfl, fun w0 hSw => by (go_simp)⟩) hH ?_
            simp only [Act.put, List.setIfInBounds_toArray, List.set_cons_zero, List.set_cons_succ]
            refine wpAnyH_ready (rs := [15]) (by kernel_rfl) (by simp) ?_
            refine (AllReadyH.cons (o := { dst := none, op := Op.store 23 (Operand.tmp 134) (Operand.tmp 133), type := 0, pos := "l15_memory.go:137", after := #[{ on := 14, ground := Ground.data }, { on := 13, ground := Ground.data }, { on := 13, ground := Ground.chain }, { on := 0, ground := Ground.phase }, { on := 1, ground := Ground.phase }, { on := 2, ground := Ground.phase }, { on := 3, ground := Ground.phase }, { on := 4, ground := Ground.phase }, { on := 5, ground := Ground.phase }, { on := 6, ground := Ground.phase }, { on := 7, ground := Ground.phase }, { on := 8, ground := Ground.phase }, { on := 9, ground := Ground.phase }, { on := 10, ground := Ground.phase }, { on := 11, ground := Ground.phase }, { on := 12, ground := Ground.phase }, { on := 13, ground := Ground.phase }], guard := none }) rfl (fun K hK => ?_) AllReadyH.nil)
            refine step_skip (w4.setCell ⟨gm, s, none⟩ v4) (by rfl) (by obtain ⟨a4, k4, hv4, _⟩ := R4.arow; rw [hv4]; go_simp) ?_
            refine hK.out _ _ ⟨CN.c4, CN.c0⟩ (fun hH' => ?_)
            clear hK K hH' hH
            refine wpAnyH_done (by kernel_rfl) ?_ _
            go_wp2
            go_ret2
            exact ⟨by rw [hH2.out, hO2.out, HRR.out]; rfl, by rw [hC2.out, HRR.out]; exact CN, _, by rw [hL2.out, HRR.out]; exact KN, FN⟩
      · have hfI : ¬ (ln : Int) = (y : Int) := by omega
        have HRR : Hid (R1 = (lL ++ [nn], coin, false, -1)) := by show _ = _; rw [hR.out]; unfold step1; rw [if_neg hin, if_neg (by rw [HLN.out]; exact hfull)]
        have HLM : Hid (lL.length ≤ 1000) := by show _ ≤ _; rw [HLN.out]; omega
        have HVW : Hid (∀ q, (Value.slice ad ln cr).ownBlock = some q → (U s).ownBlock = some q ∨ w.heap.size ≤ q) := fun q hq => Or.inl (by rw [HU.out, HLN.out]; exact hq)
        have RA := HRA.out WA (Below.refl _ _)
        clear hin hR hfull
        go_wp2
        generalize hWW : (WA).drew = WY
        have bdy : Below (WA).heap.size (WA) WY := by rw [← hWW]; exact below_drew (Below.refl _ _)
        have KY := (KA).next bdy
        have CY := (CA).next bdy
        have RY := (RA).next bdy
        have F0 : Hid (Fr cb gm m U U w WY) := (FA).trans (Fr.ofBelow bdy)
        clear bdy
        refine wp_region_held_drew (S := (fun u => u.cell? ⟨cb, 4, none⟩ = some (.slice (some ⟨gm, 0, none⟩) m cp) ∧ u.cell? ⟨cb, 0, none⟩ = some (.int .i64 (m : Int)))) (by kernel_rfl) (by rw [hWW]; exact ⟨CY.c4, CY.c0⟩) (fun hH => ?_)
        rw [hWW] at hH ⊢
        clear hWW
        refine wpAnyH_take (i := 0) (oi := { dst := some 120, op := Op.move (Operand.tmp 0), type := 82, pos := "l15_memory.go:137", after := #[], guard := none }) (v := .pointer (some ⟨cb, 0, none⟩)) rfl (by kernel_rfl) (by kernel_rfl) (by kernel_rfl) (fun _ _ _ h => h) (Or.inl ⟨by rfl, fun w0 hSw => by (go_simp)⟩) hH ?_
        simp only [Act.put, List.setIfInBounds_toArray, List.set_cons_zero, List.set_cons_succ]
        refine wpAnyH_take (i := 1) (oi := { dst := some 121, op := Op.nilCheck (Operand.tmp 120), type := 0, pos := "l15_memory.go:137", after := #[{ on := 0, ground := Ground.data }], guard := none }) (v := .pointer (some ⟨cb, 0, none⟩)) rfl (by kernel_rfl) (by kernel_rfl) (by kernel_rfl) (fun _ _ _ h => h) (Or.inl ⟨by rfl, fun w0 hSw => by (go_simp)⟩) hH ?_
        simp only [Act.put, List.setIfInBounds_toArray, List.set_cons_zero, List.set_cons_succ]
        refine wpAnyH_take (i := 2) (oi := { dst := some 122, op := Op.fieldAddr 42 (Operand.tmp 121) 4, type := 0, pos := "l15_memory.go:137", after := #[{ on := 1, ground := Ground.data }], guard := none }) (v := .pointer (some ⟨cb, 4, none⟩)) rfl (by kernel_rfl) (by kernel_rfl) (by kernel_rfl) (fun _ _ _ h => h) (Or.inl ⟨by rfl, fun w0 hSw => by (go_simp)⟩) hH ?_
        simp only [Act.put, List.setIfInBounds_toArray, List.set_cons_zero, List.set_cons_succ]
        refine wpAnyH_take (i := 3) (oi := { dst := some 123, op := Op.load 40 (Operand.tmp 122), type := 40, pos := "l15_memory.go:137", after := #[{ on := 2, ground := Ground.data }], guard := none }) (v := .slice (some ⟨gm, 0, none⟩) m cp) rfl (by kernel_rfl) (by kernel_rfl) (by kernel_rfl) (fun _ _ _ h => h) (Or.inl ⟨by rfl, fun w0 hSw => by ((have e4 := hSw.1); go_simp)⟩) hH ?_
        simp only [Act.put, List.setIfInBounds_toArray, List.set_cons_zero, List.set_cons_succ]
        refine wpAnyH_take (i := 4) (oi := { dst := some 124, op := Op.move (Operand.tmp 6), type := 3, pos := "l15_memory.go:137", after := #[], guard := none }) (v := .int .i64 nn) rfl (by kernel_rfl) (by kernel_rfl) (by kernel_rfl) (fun _ _ _ h => h) (Or.inl ⟨by rfl, fun w0 hSw => by (go_simp)⟩) hH ?_
        simp only [Act.put, List.setIfInBounds_toArray, List.set_cons_zero, List.set_cons_succ]
        refine wpAnyH_take (i := 5) (oi := { dst := some 125, op := Op.move (Operand.tmp 0), type := 82, pos := "l15_memory.go:137", after := #[], guard := none }) (v := .pointer (some ⟨cb, 0, none⟩)) rfl (by kernel_rfl) (by kernel_rfl) (by kernel_rfl) (fun _ _ _ h => h) (Or.inl ⟨by rfl, fun w0 hSw => by (go_simp)⟩) hH ?_
        simp only [Act.put, List.setIfInBounds_toArray, List.set_cons_zero, List.set_cons_succ]
        refine wpAnyH_take (i := 6) (oi := { dst := some 126, op := Op.nilCheck (Operand.tmp 125), type := 0, pos := "l15_memory.go:137", after := #[{ on := 5, ground := Ground.data }], guard := none }) (v := .pointer (some ⟨cb, 0, none⟩)) rfl (by kernel_rfl) (by kernel_rfl) (by kernel_rfl) (fun _ _ _ h => h) (Or.inl ⟨by rfl, fun w0 hSw => by (go_simp)⟩) hH ?_
        simp only [Act.put, List.setIfInBounds_toArray, List.set_cons_zero, List.set_cons_succ]
        refine wpAnyH_take (i := 7) (oi := { dst := some 127, op := Op.fieldAddr 42 (Operand.tmp 126) 0, type := 0, pos := "l15_memory.go:137", after := #[{ on := 6, ground := Ground.data }], guard := none }) (v := .pointer (some ⟨cb, 0, none⟩)) rfl (by kernel_rfl) (by kernel_rfl) (by kernel_rfl) (fun _ _ _ h => h) (Or.inl ⟨by rfl, fun w0 hSw => by (go_simp)⟩) hH ?_
        simp only [Act.put, List.setIfInBounds_toArray, List.set_cons_zero, List.set_cons_succ]
        refine wpAnyH_take (i := 8) (oi := { dst := some 128, op := Op.load 3 (Operand.tmp 127), type := 3, pos := "l15_memory.go:137", after := #[{ on := 7, ground := Ground.data }], guard := none }) (v := .int .i64 (m : Int)) rfl (by kernel_rfl) (by kernel_rfl) (by kernel_rfl) (fun _ _ _ h => h) (Or.inl ⟨by rfl, fun w0 hSw => by ((have e4 := hSw.2); go_simp)⟩) hH ?_
        simp only [Act.put, List.setIfInBounds_toArray, List.set_cons_zero, List.set_cons_succ]
        refine wpAnyH_take (i := 9) (oi := { dst := some 129, op := Op.binOp BinOp.rem 3 (Operand.tmp 124) (Operand.tmp 128) 3, type := 3, pos := "l15_memory.go:137", after := #[{ on := 4, ground := Ground.data }, { on := 8, ground := Ground.data }], guard := none }) (v := .int .i64 (s : Int)) rfl (by kernel_rfl) (by kernel_rfl) (by kernel_rfl) (fun _ _ _ h => h) (Or.inl ⟨by rfl, fun w0 hSw => by (go_simp <;> first | (intro h; exfalso; omega) | exact (IntKind.wrap_i64 _).trans (by omega) | omega)⟩) hH ?_
        simp only [Act.put, List.setIfInBounds_toArray, List.set_cons_zero, List.set_cons_succ]
        refine wpAnyH_take (i := 10) (oi := { dst := some 130, op := Op.move (Operand.tmp 7), type := 23, pos := "l15_memory.go:137", after := #[], guard := none }) (v := .slice ad ln cr) rfl (by kernel_rfl) (by kernel_rfl) (by kernel_rfl) (fun _ _ _ h => h) (Or.inl ⟨by rfl, fun w0 hSw => by (go_simp)⟩) hH ?_
        simp only [Act.put, List.setIfInBounds_toArray, List.set_cons_zero, List.set_cons_succ]
        refine wpAnyH_take (i := 11) (oi := { dst := some 131, op := Op.move (Operand.tmp 6), type := 3, pos := "l15_memory.go:137", after := #[], guard := none }) (v := .int .i64 nn) rfl (by kernel_rfl) (by kernel_rfl) (by kernel_rfl) (fun _ _ _ h => h) (Or.inl ⟨by rfl, fun w0 hSw => by (go_simp)⟩) hH ?_
        simp only [Act.put, List.setIfInBounds_toArray, List.set_cons_zero, List.set_cons_succ]
        refine wpAnyH_ready (rs := [12]) (by kernel_rfl) (by simp) ?_
        refine (AllReadyH.cons (o := { dst := some 132, op := Op.buildSlice 23 1 #[(0, Operand.tmp 131)], type := 23, pos := "l15_memory.go:137", after := #[{ on := 11, ground := Ground.data }], guard := none }) rfl (fun K hK => ?_) AllReadyH.nil)
        refine step_val (.slice (some ⟨WY.heap.size, 0, none⟩) 1 1) (WY.alloc (.cells #[.int .i64 nn] 3)) (by rfl) (by go_simp) ?_
        simp only [Act.put, List.setIfInBounds_toArray, List.set_cons_zero, List.set_cons_succ]
        refine hK.out _ _ ⟨cell_nx CY.c4 alloc_b, cell_nx CY.c0 alloc_b⟩ (fun hH' => ?_)
        clear hK K
        replace hH := hH'
        clear hH'
        have V1 := RY.next (alloc_b (o := .cells #[.int .i64 nn] 3))
        refine wpAnyH_ready (rs := [13]) (by kernel_rfl) (by simp) ?_
        refine (AllReadyH.cons (o := { dst := some 133, op := Op.call { callee := Callee.builtin Builtin.append, args := #[Operand.tmp 130, Operand.tmp 132], argTypes := #[23, 23] }, type := 23, pos := "l15_memory.go:137", after := #[{ on := 10, ground := Ground.data }, { on := 12, ground := Ground.data }], guard := none }) rfl (fun K hK => ?_) AllReadyH.nil)
        obtain ⟨v4, w4, hr4, R4, G4, A4⟩ := run_append_ri (P := Try.prog) 23 Try.underlying23 hi3 hz30 hz31 hz32 V1 (ARow.one WY nn) (by have := HLM.out; simp; omega)
        obtain ⟨cg4, fg4, hb4, sz4, hb5, KN, FN⟩ := Kx.laid KH.out F0.out KY hs HVW.out (fun q hq => (RY.lt q hq).2) G4 A4 R4
        have C4 := CY.block hb4 sz4
        have CN := CY.block hb5 (by simpa using sz4)
        refine step_app (.tmp 130) (.tmp 132) 23 _ _ v4 w4 (by rfl) (by rfl) (by rfl) (by rfl) hr4 ?_
        simp only [Act.put, List.setIfInBounds_toArray, List.set_cons_zero, List.set_cons_succ]
        refine hK.out _ _ ⟨C4.c4, C4.c0⟩ (fun hH' => ?_)
        clear hK K
        replace hH := hH'
        clear hH' hr4 V1 G4 A4
        refine wpAnyH_take (i := 14) (oi := { dst := some 134, op := Op.indexAddr 40 (Operand.tmp 123) (Operand.tmp 129), type := 0, pos := "l15_memory.go:137", after := #[{ on := 3, ground := Ground.data }, { on := 9, ground := Ground.data }, { on := 0, ground := Ground.phase }, { on := 1, ground := Ground.phase }, { on := 2, ground := Ground.phase }, { on := 3, ground := Ground.phase }, { on := 4, ground := Ground.phase }, { on := 5, ground := Ground.phase }, { on := 6, ground := Ground.phase }, { on := 7, ground := Ground.phase }, { on := 8, ground := Ground.phase }, { on := 9, ground := Ground.phase }, { on := 10, ground := Ground.phase }, { on := 11, ground := Ground.phase }, { on := 12, ground := Ground.phase }, { on := 13, ground := Ground.phase }], guard := none }) (v := .pointer (some ⟨gm, s, none⟩)) rfl (by kernel_rfl) (by kernel_rfl) (by kernel_rfl) (fun _ _ _ h => h) (Or.inl ⟨by rfl, fun w0 hSw => by (go_simp)⟩) hH ?_
        simp only [Act.put, List.setIfInBounds_toArray, List.set_cons_zero, List.set_cons_succ]
        refine wpAnyH_ready (rs := [15]) (by kernel_rfl) (by simp) ?_
        refine (AllReadyH.cons (o := { dst := none, op := Op.store 23 (Operand.tmp 134) (Operand.tmp 133), type := 0, pos := "l15_memory.go:137", after := #[{ on := 14, ground := Ground.data }, { on := 13, ground := Ground.data }, { on := 13, ground := Ground.chain }, { on := 0, ground := Ground.phase }, { on := 1, ground := Ground.phase }, { on := 2, ground := Ground.phase }, { on := 3, ground := Ground.phase }, { on := 4, ground := Ground.phase }, { on := 5, ground := Ground.phase }, { on := 6, ground := Ground.phase }, { on := 7, ground := Ground.phase }, { on := 8, ground := Ground.phase }, { on := 9, ground := Ground.phase }, { on := 10, ground := Ground.phase }, { on := 11, ground := Ground.phase }, { on := 12, ground := Ground.phase }, { on := 13, ground := Ground.phase }], guard := none }) rfl (fun K hK => ?_) AllReadyH.nil)
        refine step_skip (w4.setCell ⟨gm, s, none⟩ v4) (by rfl) (by obtain ⟨a4, k4, hv4, _⟩ := R4.arow; rw [hv4]; go_simp) ?_
        refine hK.out _ _ ⟨CN.c4, CN.c0⟩ (fun hH' => ?_)
        clear hK K hH' hH
        refine wpAnyH_done (by kernel_rfl) ?_ _
        go_wp2
        go_ret2
        exact ⟨by rw [hH2.out, hO2.out, HRR.out]; rfl, by rw [hC2.out, HRR.out]; exact CN, _, by rw [hL2.out, HRR.out]; exact KN, FN⟩
end Go.Proofs.Ytfhpjcojccfcoaa
