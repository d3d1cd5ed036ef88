/- The policy that knows what comes, level.read by it, Hits.count. -/
import Derived.Test.YtfhpjcojccfcoaaPr
import Derived.Test.YtfhpjcojccfcoaaMl
namespace Go.Proofs.Ytfhpjcojccfcoaa
open Go.ChangeShapes Go.WideShapes Go.ChangeAt Go.RowKit
set_option linter.unusedVariables false
/-- A struct of 3 cells at the head of a block. -/
structure C3 (w : World) (b : Nat) (v0 v1 v2 : Value) : Prop where
  c0 : w.cell? ⟨b, 0, none⟩ = some v0
  c1 : w.cell? ⟨b, 1, none⟩ = some v1
  c2 : w.cell? ⟨b, 2, none⟩ = some v2
  f : ∀ i, w.frozen? ⟨b, i, none⟩ = false
  hi : b < w.heap.size
theorem C3.new (w : World) (t : TypeId) (v0 v1 v2 : Value) : C3 (w.alloc (.cells #[v0, v1, v2] t)) w.heap.size v0 v1 v2 := ⟨by simp, by simp, by simp, fun i => by simp, by simp⟩
theorem C3.next {w w' : World} {b : Nat} {v0 v1 v2 : Value} (h : C3 w b v0 v1 v2) (k : Below w.heap.size w w') : C3 w' b v0 v1 v2 := ⟨cell_nx h.c0 k, cell_nx h.c1 k, cell_nx h.c2 k, fun i => (k.frozen (p := ⟨b, i, none⟩) h.hi).trans (h.f i), by have := k.size; have := h.hi; omega⟩
theorem C3.block {w w' : World} {b : Nat} {v0 v1 v2 : Value} (h : C3 w b v0 v1 v2) (k : w'.heap[b]? = w.heap[b]?) (hs : w.heap.size ≤ w'.heap.size) : C3 w' b v0 v1 v2 := ⟨(World.cell?_of_block (w := w) (a := ⟨b, 0, none⟩) k).trans h.c0, (World.cell?_of_block (w := w) (a := ⟨b, 1, none⟩) k).trans h.c1, (World.cell?_of_block (w := w) (a := ⟨b, 2, none⟩) k).trans h.c2, fun i => (World.frozen?_of_block (w := w) (a := ⟨b, i, none⟩) k).trans (h.f i), by have := h.hi; omega⟩
def set3 (w : World) (b : Nat) (u0 u1 u2 : Value) : World := (((w.setCell ⟨b, 0, none⟩ u0).setCell ⟨b, 1, none⟩ u1).setCell ⟨b, 2, none⟩ u2)
theorem only_set3 (w : World) (b : Nat) (u0 u1 u2 : Value) : Only b w (set3 w b u0 u1 u2) := by
  unfold set3
  exact (((Only.refl _ _).setCell _ _).setCell _ _).setCell _ _
theorem C3.s0 {w : World} {b : Nat} {v0 v1 v2 : Value} (h : C3 w b v0 v1 v2) (x : Value) : C3 (w.setCell ⟨b, 0, none⟩ x) b x v1 v2 := ⟨World.cell?_setCell_same' _ _ _ (by rw [h.c0]; rfl), by rw [World.cell?_setCell_other (h := addr_ne (by decide))]; exact h.c1, by rw [World.cell?_setCell_other (h := addr_ne (by decide))]; exact h.c2, fun i => by simp [h.f i], by simpa using h.hi⟩
theorem C3.s1 {w : World} {b : Nat} {v0 v1 v2 : Value} (h : C3 w b v0 v1 v2) (x : Value) : C3 (w.setCell ⟨b, 1, none⟩ x) b v0 x v2 := ⟨by rw [World.cell?_setCell_other (h := addr_ne (by decide))]; exact h.c0, World.cell?_setCell_same' _ _ _ (by rw [h.c1]; rfl), by rw [World.cell?_setCell_other (h := addr_ne (by decide))]; exact h.c2, fun i => by simp [h.f i], by simpa using h.hi⟩
theorem C3.s2 {w : World} {b : Nat} {v0 v1 v2 : Value} (h : C3 w b v0 v1 v2) (x : Value) : C3 (w.setCell ⟨b, 2, none⟩ x) b v0 v1 x := ⟨by rw [World.cell?_setCell_other (h := addr_ne (by decide))]; exact h.c0, by rw [World.cell?_setCell_other (h := addr_ne (by decide))]; exact h.c1, World.cell?_setCell_same' _ _ _ (by rw [h.c2]; rfl), fun i => by simp [h.f i], by simpa using h.hi⟩
theorem C3.put {w : World} {b : Nat} {v0 v1 v2 : Value} (h : C3 w b v0 v1 v2) (u0 u1 u2 : Value) : C3 (set3 w b u0 u1 u2) b u0 u1 u2 := (((h.s0 u0).s1 u1).s2 u2)
set_option maxRecDepth 100000 in
theorem pwait (cl : List Int) (cv : Value) (x : Int) (w : World) (Q : ARow w cv cl) (h200 : cl.length ≤ 200) : Calls Try.prog 127 #[.agg #[cv], .int .i64 x] w fun e w' => e = .returned (.int .i64 ((cl.idxOf x : Nat) : Int)) ∧ Below w.heap.size w w' := by
  have B1 : Below w.heap.size w (w.alloc (.cells #[cv] 96)) := alloc_b
  have h88 := index88 cl cv x _ (Q.next B1) (by omega)
  have HB := Hid.mk B1
  obtain ⟨ca, cc, rfl, _⟩ := Q
  by_cases hin : x ∈ cl
  · rw [(idx_hit hin).1] at h88
    have k0 : (0 : Int) ≤ ((cl.idxOf x : Nat) : Int) := by omega
    generalize ((cl.idxOf x : Nat) : Int) = z at h88 k0 ⊢
    clear B1 hin
    go_enter Try.func127, Try.ntmps127
    go_wp2_with (go_at_call 88; refine h88.mono ?_; rintro e w2 ⟨rfl, hw⟩; subst w2)
    go_ret
    exact ⟨rfl, HB.out⟩
  · rw [idx_miss hin] at h88
    have HE : Hid (((cl.idxOf x : Nat) : Int) = (cl.length : Int)) := by show _ = _; rw [List.idxOf_eq_length hin]
    clear B1 hin
    go_enter Try.func127, Try.ntmps127
    go_wp2_with (go_at_call 88; refine h88.mono ?_; rintro e w2 ⟨rfl, hw⟩; subst w2)
    go_ret
    exact ⟨by rw [HE.out]; rfl, HB.out⟩
set_option maxRecDepth 100000 in
set_option maxHeartbeats 1000000 in
theorem leave126 (cl lL : List Int) (cv v : Value) (coin : Int) (w : World) (QC : ARow w cv cl) (QL : ARow w v lL) (h200 : cl.length ≤ 200) (hl8 : lL.length ≤ 8) : Calls Try.prog 126 #[.agg #[cv], v, .int .i64 coin] w fun e w' => e = .returned (.tuple #[.int .i64 ((pk (fun j => cl.idxOf (lL.getD j 0)) lL.length : Nat) : Int), .int .i64 coin]) ∧ Below w.heap.size w w' := by
  obtain ⟨ca, cc, rfl, hcc⟩ := QC
  have QC : ARow w (.slice ca cl.length cc) cl := ⟨_, _, rfl, hcc⟩
  obtain ⟨ad, cr, rfl, hcl⟩ := QL
  have B1 : Below w.heap.size w (w.alloc (.cells #[.slice ca cl.length cc] 96)) := alloc_b
  have hb1 : (w.alloc (.cells #[.slice ca cl.length cc] 96)).cell? ⟨w.heap.size, 0, none⟩ = some (.slice ca cl.length cc) := by simp
  have HC0 : Hid (∀ w', Below w.heap.size w w' → ARow w' (.slice ca cl.length cc) cl) := fun w' b => QC.next b
  have HLC := Hid.mk hcl
  obtain ⟨W1, hW1⟩ : ∃ W, W = w.alloc (.cells #[.slice ca cl.length cc] 96) := ⟨_, rfl⟩
  rw [← hW1] at B1 hb1
  have HB1 := Hid.mk B1
  have HBX := Hid.mk hb1
  have HPN : Hid (∀ j, pk (fun j => cl.idxOf (lL.getD j 0)) (j + 1) = if cl.idxOf (lL.getD (pk (fun j => cl.idxOf (lL.getD j 0)) j) 0) < cl.idxOf (lL.getD j 0) then j else pk (fun j => cl.idxOf (lL.getD j 0)) j) := fun j => rfl
  have HPL : Hid (∀ j, 0 < j → pk (fun j => cl.idxOf (lL.getD j 0)) j < j) := fun j h => pk_lt _ j h
  have HP0 : Hid (pk (fun j => cl.idxOf (lL.getD j 0)) 0 = 0) := rfl
  obtain ⟨ln, hln⟩ : ∃ ln, lL.length = ln := ⟨_, rfl⟩
  rw [hln] at HLC hl8 ⊢
  clear hcc hcl QC B1 hb1 hln
  subst hW1
  go_enter Try.func126, Try.ntmps126
  go_wp2
  generalize w.alloc (.cells #[.slice ca cl.length cc] 96) = W1 at HB1 HBX ⊢
  go_loopw [8, 12] (fun kv jj wr => ∃ j : Nat, j ≤ ln ∧ jj = .int .i64 j ∧ kv = .int .i64 ((pk (fun j => cl.idxOf (lL.getD j 0)) j : Nat) : Int) ∧ Hid (Below w.heap.size w wr) ∧ Hid (Below W1.heap.size W1 wr)) (fun _ jj _ => ln - (intOf jj).toNat)
  case atStart => exact ⟨0, Nat.zero_le _, rfl, rfl, HB1, Below.refl _ _⟩
  case round =>
    obtain ⟨j, hj, rfl, rfl, HB, HBW⟩ := hrel
    by_cases hjl : j < ln
    case neg =>
      obtain rfl : ln = j := by omega
      have i1 : ¬ (ln : Int) < (ln : Int) := by omega
      go_wp2
      go_ret2
      exact ⟨rfl, HB.out⟩
    have i1 : (j : Int) < (ln : Int) := by omega
    have i0 : (0 : Int) ≤ (j : Int) := by omega
    have hpn := HPN.out j
    have hkl : pk (fun j => cl.idxOf (lL.getD j 0)) j < ln := by
      by_cases e : j = 0
      · subst e; rw [HP0.out]; omega
      · have := HPL.out j (by omega); omega
    obtain ⟨kk, hkk⟩ : ∃ kk, pk (fun j => cl.idxOf (lL.getD j 0)) j = kk := ⟨_, rfl⟩
    rw [hkk] at hpn hkl ⊢
    obtain ⟨g, o, rfl, hcj0⟩ := HLC.out j hjl
    obtain ⟨g', o', e1, hck0⟩ := HLC.out kk hkl
    injection e1 with e1
    injection e1 with e1 e2
    subst e1; subst e2
    have k0 : (0 : Int) ≤ (kk : Int) := by omega
    have k1 : (kk : Int) < (ln : Int) := by omega
    have HPN1 : Hid (cl.idxOf (lL.getD kk 0) < cl.idxOf (lL.getD j 0) → pk (fun j => cl.idxOf (lL.getD j 0)) (j + 1) = j) := fun h => by rw [hpn, if_pos h]
    have HPN2 : Hid (¬ cl.idxOf (lL.getD kk 0) < cl.idxOf (lL.getD j 0) → pk (fun j => cl.idxOf (lL.getD j 0)) (j + 1) = kk) := fun h => by rw [hpn, if_neg h]
    have hcj1 := cell_nx hcj0 HB.out
    have hck1 := cell_nx hck0 HB.out
    clear hpn hcj0 hck0 hkk
    obtain ⟨xj, hxj⟩ : ∃ x, lL.getD j 0 = x := ⟨_, rfl⟩
    obtain ⟨xk, hxk⟩ : ∃ x, lL.getD kk 0 = x := ⟨_, rfl⟩
    rw [hxj] at HPN1 HPN2 hcj1
    rw [hxk] at HPN1 HPN2 hck1
    clear hxj hxk
    have HCV1 : Hid (∀ w', Below wr.heap.size wr w' → ARow w' (.slice ca cl.length cc) cl) := fun w' b => HC0.out w' (HB.out.trans (b.mono HB.out.size))
    go_wp2
    generalize hWX : wr.drew = WX
    have BX : Below wr.heap.size wr WX := by rw [← hWX]; exact below_drew (Below.refl _ _)
    have HCV : Hid (∀ w', Below WX.heap.size WX w' → ARow w' (.slice ca cl.length cc) cl) := fun w' b => HCV1.out w' (BX.trans (b.mono BX.size))
    have hbx := cell_nx (cell_nx HBX.out HBW.out) BX
    have hcj := cell_nx hcj1 BX
    have hck := cell_nx hck1 BX
    clear hcj1 hck1 HCV1
    refine wp_region_held_drew (S := fun v => Below WX.heap.size WX v) (by kernel_rfl) (by rw [hWX]; exact Below.refl _ _) (fun hH => ?_)
    rw [hWX] at hH ⊢
    clear hWX
    have HBWN : Hid (∀ w', Below WX.heap.size WX w' → Below W1.heap.size W1 w') := fun w' b => HBW.out.trans ((BX.trans (b.mono BX.size)).mono HBW.out.size)
    refine wpAnyH_take (i := 0) (oi := { dst := some 15, op := Op.load 96 (Operand.tmp 3), type := 96, pos := "l15_memory.go:262", after := #[], guard := none }) (v := .agg #[.slice ca cl.length cc]) rfl (by kernel_rfl) (by kernel_rfl) (by kernel_rfl) (fun _ _ _ h => h) (Or.inl ⟨by rfl, fun w0 hSw => by ((have e1 := cell_nx hbx hSw); go_simp)⟩) hH ?_
    simp only [Act.put, List.setIfInBounds_toArray, List.set_cons_zero, List.set_cons_succ]
    refine wpAnyH_take (i := 1) (oi := { dst := some 16, op := Op.move (Operand.tmp 1), type := 23, pos := "l15_memory.go:262", after := #[], guard := none }) (v := .slice (some ⟨g, o, none⟩) ln cr) rfl (by kernel_rfl) (by kernel_rfl) (by kernel_rfl) (fun _ _ _ h => h) (Or.inl ⟨by rfl, fun w0 hSw => by (go_simp)⟩) hH ?_
    simp only [Act.put, List.setIfInBounds_toArray, List.set_cons_zero, List.set_cons_succ]
    refine wpAnyH_take (i := 2) (oi := { dst := some 17, op := Op.move (Operand.tmp 9), type := 3, pos := "l15_memory.go:262", after := #[], guard := none }) (v := .int .i64 (j : Int)) rfl (by kernel_rfl) (by kernel_rfl) (by kernel_rfl) (fun _ _ _ h => h) (Or.inl ⟨by rfl, fun w0 hSw => by (go_simp)⟩) hH ?_
    simp only [Act.put, List.setIfInBounds_toArray, List.set_cons_zero, List.set_cons_succ]
    refine wpAnyH_take (i := 3) (oi := { dst := some 18, op := Op.indexAddr 23 (Operand.tmp 16) (Operand.tmp 17), type := 0, pos := "l15_memory.go:262", after := #[{ on := 1, ground := Ground.data }, { on := 2, ground := Ground.data }], guard := none }) (v := .pointer (some ⟨g, o + j, none⟩)) rfl (by kernel_rfl) (by kernel_rfl) (by kernel_rfl) (fun _ _ _ h => h) (Or.inl ⟨by rfl, fun w0 hSw => by (go_simp <;> first | (intro h; exfalso; omega) | exact (IntKind.wrap_i64 _).trans (by omega) | omega)⟩) hH ?_
    simp only [Act.put, List.setIfInBounds_toArray, List.set_cons_zero, List.set_cons_succ]
    refine wpAnyH_take (i := 4) (oi := { dst := some 19, op := Op.load 3 (Operand.tmp 18), type := 3, pos := "l15_memory.go:262", after := #[{ on := 3, ground := Ground.data }], guard := none }) (v := .int .i64 xj) rfl (by kernel_rfl) (by kernel_rfl) (by kernel_rfl) (fun _ _ _ h => h) (Or.inl ⟨by rfl, fun w0 hSw => by ((have e1 := cell_nx hcj hSw); go_simp)⟩) hH ?_
    simp only [Act.put, List.setIfInBounds_toArray, List.set_cons_zero, List.set_cons_succ]
    refine wpAnyH_take (i := 6) (oi := { dst := some 21, op := Op.load 96 (Operand.tmp 3), type := 96, pos := "l15_memory.go:262", after := #[], guard := none }) (v := .agg #[.slice ca cl.length cc]) rfl (by kernel_rfl) (by kernel_rfl) (by kernel_rfl) (fun _ _ _ h => h) (Or.inl ⟨by rfl, fun w0 hSw => by ((have e1 := cell_nx hbx hSw); go_simp)⟩) hH ?_
    simp only [Act.put, List.setIfInBounds_toArray, List.set_cons_zero, List.set_cons_succ]
    refine wpAnyH_take (i := 7) (oi := { dst := some 22, op := Op.move (Operand.tmp 1), type := 23, pos := "l15_memory.go:262", after := #[], guard := none }) (v := .slice (some ⟨g, o, none⟩) ln cr) rfl (by kernel_rfl) (by kernel_rfl) (by kernel_rfl) (fun _ _ _ h => h) (Or.inl ⟨by rfl, fun w0 hSw => by (go_simp)⟩) hH ?_
    simp only [Act.put, List.setIfInBounds_toArray, List.set_cons_zero, List.set_cons_succ]
    refine wpAnyH_take (i := 8) (oi := { dst := some 23, op := Op.move (Operand.tmp 8), type := 3, pos := "l15_memory.go:262", after := #[], guard := none }) (v := .int .i64 (kk : Int)) rfl (by kernel_rfl) (by kernel_rfl) (by kernel_rfl) (fun _ _ _ h => h) (Or.inl ⟨by rfl, fun w0 hSw => by (go_simp)⟩) hH ?_
    simp only [Act.put, List.setIfInBounds_toArray, List.set_cons_zero, List.set_cons_succ]
    refine wpAnyH_take (i := 9) (oi := { dst := some 24, op := Op.indexAddr 23 (Operand.tmp 22) (Operand.tmp 23), type := 0, pos := "l15_memory.go:262", after := #[{ on := 7, ground := Ground.data }, { on := 8, ground := Ground.data }], guard := none }) (v := .pointer (some ⟨g, o + kk, none⟩)) rfl (by kernel_rfl) (by kernel_rfl) (by kernel_rfl) (fun _ _ _ h => h) (Or.inl ⟨by rfl, fun w0 hSw => by (go_simp <;> first | (intro h; exfalso; omega) | exact (IntKind.wrap_i64 _).trans (by omega) | omega)⟩) hH ?_
    simp only [Act.put, List.setIfInBounds_toArray, List.set_cons_zero, List.set_cons_succ]
    refine wpAnyH_take (i := 10) (oi := { dst := some 25, op := Op.load 3 (Operand.tmp 24), type := 3, pos := "l15_memory.go:262", after := #[{ on := 9, ground := Ground.data }], guard := none }) (v := .int .i64 xk) rfl (by kernel_rfl) (by kernel_rfl) (by kernel_rfl) (fun _ _ _ h => h) (Or.inl ⟨by rfl, fun w0 hSw => by ((have e1 := cell_nx hck hSw); go_simp)⟩) hH ?_
    simp only [Act.put, List.setIfInBounds_toArray, List.set_cons_zero, List.set_cons_succ]
    refine wpAnyH_ready (rs := [5]) (by kernel_rfl) (by simp) ?_
    refine (AllReadyH.cons (o := { dst := some 20, op := Op.call { callee := Callee.value (Operand.func 127), args := #[Operand.tmp 15, Operand.tmp 19], argTypes := #[96, 3] }, type := 3, pos := "l15_memory.go:262", after := #[{ on := 0, ground := Ground.data }, { on := 4, ground := Ground.data }], guard := none }) rfl (fun K hK => ?_) AllReadyH.nil)
    refine step_callC 127 #[.agg #[.slice ca cl.length cc], .int .i64 xj] (fun z v w' => z = .int .i64 ((cl.idxOf xj : Nat) : Int) ∧ Below v.heap.size v w') (by rfl) (by go_simp) ((pwait cl (.slice ca cl.length cc) xj _ (HCV.out _ hH) h200).mono fun e w' ⟨h1, h2⟩ => ⟨_, h1, rfl, h2⟩) ?_
    rintro z5 w5 ⟨rfl, B5⟩
    simp only [Act.put, List.setIfInBounds_toArray, List.set_cons_zero, List.set_cons_succ]
    refine hK.out _ _ (hH.trans (B5.mono hH.size)) (fun hH' => ?_)
    clear hK K
    replace hH := hH'
    clear hH' B5
    refine wpAnyH_ready (rs := [11]) (by kernel_rfl) (by simp) ?_
    refine (AllReadyH.cons (o := { dst := some 26, op := Op.call { callee := Callee.value (Operand.func 127), args := #[Operand.tmp 21, Operand.tmp 25], argTypes := #[96, 3] }, type := 3, pos := "l15_memory.go:262", after := #[{ on := 6, ground := Ground.data }, { on := 10, ground := Ground.data }, { on := 5, ground := Ground.chain }], guard := none }) rfl (fun K hK => ?_) AllReadyH.nil)
    refine step_callC 127 #[.agg #[.slice ca cl.length cc], .int .i64 xk] (fun z v w' => z = .int .i64 ((cl.idxOf xk : Nat) : Int) ∧ Below v.heap.size v w') (by rfl) (by go_simp) ((pwait cl (.slice ca cl.length cc) xk _ (HCV.out _ hH) h200).mono fun e w' ⟨h1, h2⟩ => ⟨_, h1, rfl, h2⟩) ?_
    rintro z11 w11 ⟨rfl, B11⟩
    simp only [Act.put, List.setIfInBounds_toArray, List.set_cons_zero, List.set_cons_succ]
    refine hK.out _ _ (hH.trans (B11.mono hH.size)) (fun hH' => ?_)
    clear hK K
    replace hH := hH'
    clear hH' B11
    refine wpAnyH_take (i := 12) (oi := { dst := some 27, op := Op.binOp BinOp.gtr 3 (Operand.tmp 20) (Operand.tmp 26) 3, type := 4, pos := "l15_memory.go:262", after := #[{ on := 5, ground := Ground.data }, { on := 11, ground := Ground.data }], guard := none }) (v := .bool (decide (((cl.idxOf xk : Nat) : Int) < ((cl.idxOf xj : Nat) : Int)))) rfl (by kernel_rfl) (by kernel_rfl) (by kernel_rfl) (fun _ _ _ h => h) (Or.inl ⟨by rfl, fun w0 hSw => by (go_simp)⟩) hH ?_
    simp only [Act.put, List.setIfInBounds_toArray, List.set_cons_zero, List.set_cons_succ]
    refine wpAnyH_done (by kernel_rfl) ?_ _
    have BW2 := Hid.mk (HBWN.out _ hH)
    have BN : Hid (Below w.heap.size w _) := HB.out.trans ((BX.trans (hH.mono BX.size)).mono HB.out.size)
    clear hH
    by_cases hgt : ((cl.idxOf xk : Nat) : Int) < ((cl.idxOf xj : Nat) : Int)
    · have HP2 : Hid (pk (fun j => cl.idxOf (lL.getD j 0)) (j + 1) = j) := HPN1.out (by omega)
      clear HPN1 HPN2
      go_wp2
      go_roundw
      case rel => exact ⟨j + 1, by omega, by go_num, by rw [HP2.out], BN, BW2⟩
      case measure => simp [intOf]; omega
    · have HP2 : Hid (pk (fun j => cl.idxOf (lL.getD j 0)) (j + 1) = kk) := HPN2.out (by omega)
      clear HPN1 HPN2
      go_wp2
      go_roundw
      case rel => exact ⟨j + 1, by omega, by go_num, by rw [HP2.out], BN, BW2⟩
      case measure => simp [intOf]; omega
end Go.Proofs.Ytfhpjcojccfcoaa
