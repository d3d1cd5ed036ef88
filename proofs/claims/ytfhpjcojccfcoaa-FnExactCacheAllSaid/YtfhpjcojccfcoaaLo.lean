/- The program's level of a cache: made, read by any policy, and taken back. -/
import Derived.Test.YtfhpjcojccfcoaaPr
namespace Go.Proofs.Ytfhpjcojccfcoaa
open Go.ChangeShapes Go.WideShapes Go.ChangeAt Go.RowKit
set_option linter.unusedVariables false
/-- The policy of a number. -/
def polV (p : Int) : Value := if p = 1 then .iface 114 (.agg #[]) else if p = 3 then .iface 115 (.agg #[]) else .iface 94 (.agg #[])
set_option maxRecDepth 100000 in
theorem ppolicy (p : Int) (w : World) : Calls Try.prog 78 #[.int .i64 p] w fun e w' => e = .returned (polV p) ∧ w' = w := by
  unfold polV
  by_cases h1 : p = 1
  · rw [if_pos h1]
    subst h1
    go_enter Try.func78, Try.ntmps78
    go_wp2
    go_ret
    exact ⟨rfl, rfl⟩
  · rw [if_neg h1]
    by_cases h3 : p = 3
    · rw [if_pos h3]
      subst h3
      go_enter Try.func78, Try.ntmps78
      go_wp2
      go_ret
      exact ⟨rfl, rfl⟩
    · rw [if_neg h3]
      go_enter Try.func78, Try.ntmps78
      go_wp2
      go_ret
      exact ⟨rfl, rfl⟩
theorem pclone (u : Value) (L : List Int) (w : World) (Q : ARow w u L) (hl : L.length ≤ 1048576) : Calls Try.prog 79 #[u] w fun e w' => ∃ v, e = .returned v ∧ Ri w.heap.size w' v L ∧ Below w.heap.size w w' := by
  obtain ⟨ad, c, rfl, hc⟩ := Q
  by_cases h0 : L = []
  · subst h0
    cases ad with
    | none => exact (Try.slices_Clone_int_nil _ c w).mono fun e w' ⟨h1, h2⟩ => ⟨_, h1, by rw [h2]; exact ⟨Ri.nil _ _ (Nat.le_refl _), Below.refl _ _⟩⟩
    | some a => exact (Try.slices_Clone_int_zero a c w).mono fun e w' ⟨v, h1, h2, _, h3⟩ => ⟨v, h1, ⟨h2, h3.size⟩, h3⟩
  · obtain ⟨g, o, rfl, _⟩ := hc 0 (List.length_pos_iff.2 h0)
    refine (Try.slices_Clone_int g o L.length c L w (Nat.le_refl _) (by omega) (fun j hj => ?_)).mono fun e w' ⟨v, h1, h2, _, h3⟩ => ⟨v, h1, ⟨?_, h3.size⟩, h3⟩
    · obtain ⟨g', o', e1, e2⟩ := hc j hj
      injection e1 with e1
      injection e1 with e1 e3
      subst e1; subst e3
      exact e2
    · rw [List.take_length] at h2
      exact h2
theorem infoSS : (Try.prog.info? 23).map (fun i => (i.zero, i.size, i.bytes)) = some (some (.slice none 0 0), 1, 24) := by kernel_rfl
/-- A level while its rows are laid: k of them, their slices in os. -/
structure Bd (B lb k : Nat) (w : World) (os : Value) (U : Nat → Value) (f : Nat → List Int) : Prop where
  o : w.ownsRow B 23 1 os k ((List.range k).map U)
  r : ∀ x, x < k → Ri B w (U x) (f x)
  ap : ∀ x y, x < k → y < k → x ≠ y → ∀ q, (U x).ownBlock = some q → (U y).ownBlock ≠ some q
  ng : ∀ x, x < k → ∀ q, (U x).ownBlock = some q → os.ownBlock ≠ some q
  lr : ∀ x, x < k → ∀ q, (U x).ownBlock = some q → lb < q
  lo : ∀ q, os.ownBlock = some q → lb < q
  bl : B ≤ lb
  hl : lb < w.heap.size
theorem Bd.next {B lb k : Nat} {w w' : World} {os : Value} {U : Nat → Value} {f : Nat → List Int} (h : Bd B lb k w os U f) (b : Below w.heap.size w w') : Bd B lb k w' os U f :=
  ⟨h.o.kept (row := none) ⟨b.os, b.tape, b.output, b.size, fun i hi _ => b.block i hi⟩ (by cases e : os.ownBlock <;> simp), fun x hx => (h.r x hx).next b, h.ap, h.ng, h.lr, h.lo, h.bl, by have := h.hl; have := b.size; omega⟩
theorem range_up (U : Nat → Value) (k : Nat) (v : Value) : (List.range (k + 1)).map (upV U k v) = (List.range k).map U ++ [v] := by
  rw [List.range_succ, List.map_append, List.map_singleton]
  congr 1
  · refine List.map_congr_left (fun x hx => ?_)
    have := List.mem_range.1 hx
    unfold upV
    rw [if_neg (by omega)]
  · unfold upV
    rw [if_pos rfl]
theorem Bd.head {B lb k : Nat} {w w' : World} {os : Value} {U : Nat → Value} {f : Nat → List Int} (h : Bd B lb k w os U f) (o : Only lb w w') : Bd B lb k w' os U f := by
  have g : w.grownBy w' (some lb) := ⟨o.os, o.tape, o.output, o.size, fun i hi hne => o.block i hi (fun q => hne (by rw [q]))⟩
  refine ⟨h.o.kept g ?_, fun x hx => (h.r x hx).grown g (Or.inr (fun e => by have := h.lr x hx lb e; omega)), h.ap, h.ng, h.lr, h.lo, h.bl, by have := h.hl; have := o.size; omega⟩
  by_cases e : os.ownBlock = none
  · exact Or.inl e
  · exact Or.inr (fun e2 => by have := h.lo lb e2; omega)
theorem Bd.step {B lb k : Nat} {w w1 : World} {os v1 v2 v3 v4 v5 : Value} {U : Nat → Value} {f : Nat → List Int} (h : Bd B lb k w os U f) (C : C5 w lb os v2 v3 v4 v5) (hk : k ≤ 1000) (R : Ri w.heap.size w1 v1 (f k)) (b : Below w.heap.size w w1) :
    ∃ v' w', (Builtin.append_ #[40, 40] 40 #[os, .slice (some ⟨w1.heap.size, 0, none⟩) 1 1]).run Try.prog (w1.alloc (.cells #[v1] 23)) = .ok v' w' ∧ Bd B lb (k + 1) (w'.setCell ⟨lb, 0, none⟩ v') v' (upV U k v1) f ∧ C5 w' lb os v2 v3 v4 v5 ∧ C5 (w'.setCell ⟨lb, 0, none⟩ v') lb v' v2 v3 v4 v5 ∧ Below lb w (w'.setCell ⟨lb, 0, none⟩ v') ∧ ∃ a4 k4, v' = .slice a4 (k + 1) k4 := by
  obtain ⟨iS, hiS, hzS0, hzS1, hzS2⟩ := info_parts infoSS
  have D2 := (h.next b).next (alloc_b (o := .cells #[v1] 23))
  have R2 := R.next (alloc_b (o := .cells #[v1] 23))
  have hs1 := b.size
  have hsa : (w1.alloc (.cells #[v1] 23)).heap.size = w1.heap.size + 1 := World.size_alloc _ _
  have hol : ∀ q, os.ownBlock = some q → B ≤ q ∧ q < w.heap.size := fun q hq => h.o.lt q hq
  have hrl : ∀ x, x < k → ∀ q, (U x).ownBlock = some q → B ≤ q ∧ q < w.heap.size := fun x hx q hq => (h.r x hx).lt q hq
  have hvl : ∀ q, v1.ownBlock = some q → w.heap.size ≤ q ∧ q < w1.heap.size := fun q hq => R.lt q hq
  have hlb := h.hl
  have hBl := h.bl
  obtain ⟨v', w', h1, h2, h3, h4, h5⟩ := run_append_own_at (P := Try.prog) (w1.alloc (.cells #[v1] 23)) B 40 40 23 iS (.slice none 0 0) 1 24 Try.underlying40 hiS hzS0 hzS1 hzS2 rfl (by decide) os k ((List.range k).map U) D2.o ⟨w1.heap.size, 0, none⟩ 1 1 [v1] rfl (fun j u hu => by
    have hj : j = 0 := by
      cases j with
      | zero => rfl
      | succ j => simp at hu
    subst hj
    have hu2 : v1 = u := by simpa using hu
    subst hu2
    simp [Addr.add]) (fun u hu => by
    obtain ⟨a, c, e, _⟩ := R.arow
    have : u = v1 := by simpa using hu
    rw [this, e]
    rfl) (by unfold maxLen; omega) (by omega) (by omega)
  have hs3 := h3.size
  have o5 : ∀ q, v'.ownBlock = some q → os.ownBlock = some q ∨ w1.heap.size + 1 ≤ q := fun q hq => by
    rcases h5 with e | e
    · rw [e] at hq; exact Or.inl hq
    · rw [e, hsa] at hq; have := Option.some.inj hq; exact Or.inr (by omega)
  have DN : Bd B lb (k + 1) w' v' (upV U k v1) f := by
    refine ⟨by rw [range_up]; exact h2, fun x hx => ?_, fun x y hx hy hne q hq => ?_, fun x hx q hq e => ?_, fun x hx q hq => ?_, fun q hq => ?_, hBl, by omega⟩
    · unfold upV
      by_cases e : x = k
      · subst e
        rw [if_pos rfl]
        refine (R2.up (by omega)).grown h3 ?_
        by_cases e : v1.ownBlock = none
        · exact Or.inl e
        · refine Or.inr (fun e2 => ?_)
          obtain ⟨q, hq⟩ := Option.ne_none_iff_exists'.1 e
          have q1 := hvl q hq
          have q2 := hol q (by rw [← e2]; exact hq)
          omega
      · rw [if_neg e]
        refine (D2.r x (by omega)).grown h3 ?_
        by_cases e3 : (U x).ownBlock = none
        · exact Or.inl e3
        · refine Or.inr (fun e2 => ?_)
          obtain ⟨q, hq⟩ := Option.ne_none_iff_exists'.1 e3
          exact h.ng x (by omega) q hq (by rw [← e2]; exact hq)
    · unfold upV at hq ⊢
      by_cases e1 : x = k
      · rw [if_pos e1] at hq
        rw [if_neg (by omega)]
        intro e
        have q1 := hvl q hq
        have q2 := hrl y (by omega) q e
        omega
      · rw [if_neg e1] at hq
        by_cases e2 : y = k
        · rw [if_pos e2]
          intro e
          have q1 := hvl q e
          have q2 := hrl x (by omega) q hq
          omega
        · rw [if_neg e2]
          exact h.ap x y (by omega) (by omega) hne q hq
    · unfold upV at hq
      have q3 := o5 q e
      by_cases e1 : x = k
      · rw [if_pos e1] at hq
        have q1 := hvl q hq
        rcases q3 with q3 | q3
        · have := hol q q3; omega
        · omega
      · rw [if_neg e1] at hq
        rcases q3 with q3 | q3
        · exact h.ng x (by omega) q hq q3
        · have := hrl x (by omega) q hq; omega
    · unfold upV at hq
      by_cases e1 : x = k
      · rw [if_pos e1] at hq
        have := hvl q hq
        omega
      · rw [if_neg e1] at hq
        exact h.lr x (by omega) q hq
    · rcases o5 q hq with q3 | q3
      · exact h.lo q q3
      · omega
  have bk : ∀ i, i < lb + 1 → w'.heap[i]? = w.heap[i]? := fun i hi => (h3.block i (by omega) (fun e => by have := h.lo i e.symm; omega)).trans (((alloc_b (v := w1) (o := .cells #[v1] 23)).block i (by omega)).trans (b.block i (by omega)))
  have CN : C5 w' lb os v2 v3 v4 v5 := C.block (bk lb (by omega)) (by omega)
  have ON : Only lb w' (w'.setCell ⟨lb, 0, none⟩ v') := (Only.refl _ _).setCell _ _
  refine ⟨v', w', h1, DN.head ON, CN, CN.s0 v', ⟨ON.os.trans (h3.os.trans b.os), ON.tape.trans (h3.tape.trans b.tape), ON.output.trans (h3.output.trans b.output), by have := ON.size; omega, fun i hi => (ON.block i (by omega) (by omega)).trans (bk i (by omega))⟩, ?_⟩
  rcases h2.2 with ⟨_, e⟩ | ⟨g, cap, cur, e, _⟩
  · omega
  · exact ⟨_, _, e⟩
theorem Bd.done {B lb k : Nat} {w : World} {os : Value} {U : Nat → Value} {f : Nat → List Int} (h : Bd B lb k w os U f) (hk : 1 ≤ k) : ∃ gm cp, os = .slice (some ⟨gm, 0, none⟩) k cp ∧ k ≤ cp ∧ Kx B w lb gm k U f := by
  rcases h.o.2 with ⟨_, e⟩ | ⟨g, cap, cur, e, h2, h3, h4, _⟩
  · omega
  subst e
  have O := own_owned h.o U (fun i hi => by simp [hi])
  refine ⟨g, cap, rfl, h4, O.cell, h.r, h.ap, fun x hx e => h.ng x hx g e rfl, fun x hx e => by have := h.lr x hx lb e; omega, by have := h.lo g rfl; omega, O.free, O.hi, h.hl, h2, h.bl⟩
set_option maxRecDepth 100000 in
set_option maxHeartbeats 2000000 in
theorem plevel (s y l p c : Int) (v : Value) (m : Nat) (f : Nat → List Int) (w : World) (R : ARows w v m f) (m1 : 1 ≤ m) (m2 : m ≤ 64) (hf : ∀ x, x < m → (f x).length ≤ 8) : Calls Try.prog 66 #[.agg #[.int .i64 s, .int .i64 y, .int .i64 l, .int .i64 p, v, .int .i64 c]] w fun e w' => ∃ lb gm cp U, e = .returned (.pointer (some ⟨lb, 0, none⟩)) ∧ C5 w' lb (.slice (some ⟨gm, 0, none⟩) m cp) (.int .i64 y) (.int .i64 l) (polV p) (.int .i64 c) ∧ m ≤ cp ∧ Kx w.heap.size w' lb gm m U f ∧ Below w.heap.size w w' := by
  obtain ⟨ad, cap, rfl, hR⟩ := R
  have HR := Hid.mk hR
  have HF := Hid.mk hf
  have HPO : Hid (∀ w, Calls Try.prog 78 #[.int .i64 p] w fun e w' => e = .returned (polV p) ∧ w' = w) := fun w => ppolicy p w
  obtain ⟨pv, hpv⟩ : ∃ pv, polV p = pv := ⟨_, rfl⟩
  have HFM : Hid (∃ t, pv = .iface t (.agg #[])) := by
    show ∃ t, _
    rw [← hpv]
    unfold polV
    split
    · exact ⟨_, rfl⟩
    · split <;> exact ⟨_, rfl⟩
  rw [hpv] at HPO ⊢
  obtain ⟨pt, hpt⟩ := HFM.out
  subst hpt
  clear hpv hR hf HFM
  go_enter Try.func66, Try.ntmps66
  go_wp2
  generalize hWW : World.drew _ = WX
  have CX : C6 WX w.heap.size (.int .i64 s) (.int .i64 y) (.int .i64 l) (.int .i64 p) (.slice ad m cap) (.int .i64 c) := by rw [← hWW]; exact (C6.new w 42 (.int .i64 s) (.int .i64 y) (.int .i64 l) (.int .i64 p) (.slice ad m cap) (.int .i64 c)).next (below_drew (Below.refl _ _))
  have BX : Below w.heap.size w WX := by rw [← hWW]; exact below_drew alloc_b
  refine wp_region_held_drew (S := fun u => C6 u w.heap.size (.int .i64 s) (.int .i64 y) (.int .i64 l) (.int .i64 p) (.slice ad m cap) (.int .i64 c)) (by kernel_rfl) (by rw [hWW]; exact CX) (fun hH => ?_)
  rw [hWW] at hH ⊢
  clear hWW
  refine wpAnyH_take (i := 0) (oi := { dst := some 6, op := Op.fieldAddr 42 (Operand.tmp 1) 2, type := 0, pos := "l15_memory.go:300", after := #[], guard := none }) (v := .pointer (some ⟨w.heap.size, 2, none⟩)) rfl (by kernel_rfl) (by kernel_rfl) (by kernel_rfl) (fun _ _ _ h => h) (Or.inl ⟨by rfl, fun w0 hSw => by (go_simp)⟩) hH ?_
  simp only [Act.put, List.setIfInBounds_toArray, List.set_cons_zero, List.set_cons_succ]
  refine wpAnyH_take (i := 1) (oi := { dst := some 7, op := Op.load 3 (Operand.tmp 6), type := 3, pos := "l15_memory.go:300", after := #[{ on := 0, ground := Ground.data }], guard := none }) (v := .int .i64 l) rfl (by kernel_rfl) (by kernel_rfl) (by kernel_rfl) (fun _ _ _ h => h) (Or.inl ⟨by rfl, fun w0 hSw => by ((have e4 := hSw.c2); go_simp)⟩) hH ?_
  simp only [Act.put, List.setIfInBounds_toArray, List.set_cons_zero, List.set_cons_succ]
  refine wpAnyH_take (i := 2) (oi := { dst := some 8, op := Op.fieldAddr 42 (Operand.tmp 1) 3, type := 0, pos := "l15_memory.go:300", after := #[], guard := none }) (v := .pointer (some ⟨w.heap.size, 3, none⟩)) rfl (by kernel_rfl) (by kernel_rfl) (by kernel_rfl) (fun _ _ _ h => h) (Or.inl ⟨by rfl, fun w0 hSw => by (go_simp)⟩) hH ?_
  simp only [Act.put, List.setIfInBounds_toArray, List.set_cons_zero, List.set_cons_succ]
  refine wpAnyH_take (i := 3) (oi := { dst := some 9, op := Op.load 3 (Operand.tmp 8), type := 3, pos := "l15_memory.go:300", after := #[{ on := 2, ground := Ground.data }], guard := none }) (v := .int .i64 p) rfl (by kernel_rfl) (by kernel_rfl) (by kernel_rfl) (fun _ _ _ h => h) (Or.inl ⟨by rfl, fun w0 hSw => by ((have e4 := hSw.c3); go_simp)⟩) hH ?_
  simp only [Act.put, List.setIfInBounds_toArray, List.set_cons_zero, List.set_cons_succ]
  refine wpAnyH_take (i := 5) (oi := { dst := some 11, op := Op.fieldAddr 42 (Operand.tmp 1) 5, type := 0, pos := "l15_memory.go:300", after := #[], guard := none }) (v := .pointer (some ⟨w.heap.size, 5, none⟩)) rfl (by kernel_rfl) (by kernel_rfl) (by kernel_rfl) (fun _ _ _ h => h) (Or.inl ⟨by rfl, fun w0 hSw => by (go_simp)⟩) hH ?_
  simp only [Act.put, List.setIfInBounds_toArray, List.set_cons_zero, List.set_cons_succ]
  refine wpAnyH_take (i := 6) (oi := { dst := some 12, op := Op.load 3 (Operand.tmp 11), type := 3, pos := "l15_memory.go:300", after := #[{ on := 5, ground := Ground.data }], guard := none }) (v := .int .i64 c) rfl (by kernel_rfl) (by kernel_rfl) (by kernel_rfl) (fun _ _ _ h => h) (Or.inl ⟨by rfl, fun w0 hSw => by ((have e4 := hSw.c5); go_simp)⟩) hH ?_
  simp only [Act.put, List.setIfInBounds_toArray, List.set_cons_zero, List.set_cons_succ]
  refine wpAnyH_ready (rs := [4]) (by kernel_rfl) (by simp) ?_
  refine (AllReadyH.cons (o := { dst := some 10, op := Op.call { callee := Callee.value (Operand.func 78), args := #[Operand.tmp 9], argTypes := #[3] }, type := 90, pos := "l15_memory.go:300", after := #[{ on := 3, ground := Ground.data }], guard := none }) rfl (fun K hK => ?_) AllReadyH.nil)
  refine step_callC 78 #[.int .i64 p] (fun z v w' => z = .iface pt (.agg #[]) ∧ w' = v) (by rfl) (by go_simp) ((HPO.out _).mono fun e w' ⟨h1, h2⟩ => ⟨_, h1, rfl, h2⟩) ?_
  rintro z2 w2 ⟨rfl, hw2⟩
  subst w2
  simp only [Act.put, List.setIfInBounds_toArray, List.set_cons_zero, List.set_cons_succ]
  refine hK.out _ _ CX (fun hH' => ?_)
  clear hK K
  replace hH := hH'
  clear hH'
  refine wpAnyH_take (i := 7) (oi := { dst := some 13, op := Op.build 92 #[(1, Operand.tmp 7), (2, Operand.tmp 10), (3, Operand.tmp 12)], type := 92, pos := "l15_memory.go:300", after := #[{ on := 1, ground := Ground.data }, { on := 4, ground := Ground.data }, { on := 6, ground := Ground.data }], guard := none }) (v := .agg #[.slice none 0 0, .int .i64 0, .int .i64 l, .iface pt (.agg #[]), .int .i64 c]) rfl (by kernel_rfl) (by kernel_rfl) (by kernel_rfl) (fun _ _ _ h => h) (Or.inl ⟨by rfl, fun w0 hSw => by (go_simp)⟩) hH ?_
  simp only [Act.put, List.setIfInBounds_toArray, List.set_cons_zero, List.set_cons_succ]
  refine wpAnyH_ready (rs := [8]) (by kernel_rfl) (by simp) ?_
  refine (AllReadyH.cons (o := { dst := some 14, op := Op.box 92 (Operand.tmp 13), type := 83, pos := "l15_memory.go:300", after := #[{ on := 7, ground := Ground.data }], guard := none }) rfl (fun K hK => ?_) AllReadyH.nil)
  refine step_val (.pointer (some ⟨WX.heap.size, 0, none⟩)) (WX.alloc (.cells #[.slice none 0 0, .int .i64 0, .int .i64 l, .iface pt (.agg #[]), .int .i64 c] 92)) (by rfl) (by go_simp) ?_
  simp only [Act.put, List.setIfInBounds_toArray, List.set_cons_zero, List.set_cons_succ]
  refine hK.out _ _ (CX.next alloc_b) (fun hH' => ?_)
  clear hK K
  replace hH := hH'
  clear hH'
  refine wpAnyH_take (i := 9) (oi := { dst := some 3, op := Op.assign (Operand.tmp 14), type := 83, pos := "l15_memory.go:300", after := #[{ on := 8, ground := Ground.data }, { on := 4, ground := Ground.chain }, { on := 0, ground := Ground.phase }, { on := 1, ground := Ground.phase }, { on := 2, ground := Ground.phase }, { on := 3, ground := Ground.phase }, { on := 4, ground := Ground.phase }, { on := 5, ground := Ground.phase }, { on := 6, ground := Ground.phase }, { on := 7, ground := Ground.phase }, { on := 8, ground := Ground.phase }], guard := none }) (v := .pointer (some ⟨WX.heap.size, 0, none⟩)) rfl (by kernel_rfl) (by kernel_rfl) (by kernel_rfl) (fun _ _ _ h => h) (Or.inl ⟨by rfl, fun w0 hSw => by (go_simp)⟩) hH ?_
  simp only [Act.put, List.setIfInBounds_toArray, List.set_cons_zero, List.set_cons_succ]
  refine wpAnyH_done (by kernel_rfl) ?_ _
  have CA := CX.next (alloc_b (o := .cells #[.slice none 0 0, .int .i64 0, .int .i64 l, .iface pt (.agg #[]), .int .i64 c] 92))
  have CB := CX.next (alloc_b (o := .cells #[.slice none 0 0, .int .i64 y, .int .i64 l, .iface pt (.agg #[]), .int .i64 c] 92))
  have D0 := C5.new WX 92 (.slice none 0 0) (.int .i64 y) (.int .i64 l) (.iface pt (.agg #[])) (.int .i64 c)
  have hwx := CX.hi
  have q1 := CA.c1
  have q4 := CA.c4
  have q4b := CB.c4
  have h9 : (WX.alloc (.cells #[.slice none 0 0, .int .i64 y, .int .i64 l, .iface pt (.agg #[]), .int .i64 c] 92)).heap.size = WX.heap.size + 1 := World.size_alloc _ _
  have HC5 : Hid (C5 (WX.alloc (.cells #[.slice none 0 0, .int .i64 y, .int .i64 l, .iface pt (.agg #[]), .int .i64 c] 92)) WX.heap.size (.slice none 0 0) (.int .i64 y) (.int .i64 l) (.iface pt (.agg #[])) (.int .i64 c)) := D0
  have HBd : Hid (Bd w.heap.size WX.heap.size 0 (WX.alloc (.cells #[.slice none 0 0, .int .i64 y, .int .i64 l, .iface pt (.agg #[]), .int .i64 c] 92)) (.slice none 0 0) (fun _ => .slice none 0 0) f) := ⟨World.ownsRow_nil _ _ _ _, fun x hx => absurd hx (Nat.not_lt_zero _), fun x y hx => absurd hx (Nat.not_lt_zero _), fun x hx => absurd hx (Nat.not_lt_zero _), fun x hx => absurd hx (Nat.not_lt_zero _), fun q e => (by cases e), by omega, by omega⟩
  have HB : Hid (Below w.heap.size w (WX.alloc (.cells #[.slice none 0 0, .int .i64 y, .int .i64 l, .iface pt (.agg #[]), .int .i64 c] 92))) := BX.alloc (by omega) _
  have HLW : Hid (w.heap.size < WX.heap.size) := hwx
  clear CA CB BX h9
  go_wp2
  clear q1 q4 q4b D0 CX hwx
  generalize WX.alloc (.cells #[.slice none 0 0, .int .i64 y, .int .i64 l, .iface pt (.agg #[]), .int .i64 c] 92) = W0 at HC5 HBd HB ⊢
  generalize WX.heap.size = lb at HC5 HBd HB HLW ⊢
  go_loopw [24] (fun ii wr => ∃ (k : Nat) (os : Value) (U : Nat → Value), k ≤ m ∧ ii = .int .i64 k ∧ Hid (C5 wr lb os (.int .i64 y) (.int .i64 l) (.iface pt (.agg #[])) (.int .i64 c)) ∧ Hid (Bd w.heap.size lb k wr os U f) ∧ Hid (Below w.heap.size w wr)) (fun ii _ => m - (intOf ii).toNat)
  case atStart => exact ⟨0, _, _, Nat.zero_le _, rfl, HC5, HBd, HB⟩
  case round =>
    obtain ⟨k, os, U, hk, rfl, HC, HD, HBr⟩ := hrel
    by_cases hkm : k < m
    · have i1 : (k : Int) < (m : Int) := by omega
      have i0 : (0 : Int) ≤ (k : Int) := by omega
      obtain ⟨q, o, u, rfl, hcu, RU⟩ := HR.out k hkm
      have hcu1 := cell_nx hcu HBr.out
      have HRU0 : Hid (ARow wr u (f k)) := RU.next HBr.out
      have hfl := HF.out k hkm
      clear hcu RU
      go_wp2
      generalize hWW : World.drew _ = WX
      have B0 : Below wr.heap.size wr WX := by rw [← hWW]; exact below_drew (Below.refl _ _)
      have CX := HC.out.next B0
      have DX := HD.out.next B0
      have HRU : Hid (ARow WX u (f k)) := HRU0.out.next B0
      have BX : Below w.heap.size w WX := HBr.out.trans (B0.mono HBr.out.size)
      have hpx : lb < WX.heap.size := CX.hi
      clear HC HD HBr HRU0 B0 hcu1
      refine wp_region_held_drew (S := fun _ => True) (by kernel_rfl) trivial (fun hH => ?_)
      rw [hWW]
      clear hWW
      refine wpAnyH_take (i := 0) (oi := { dst := some 28, op := Op.move (Operand.tmp 3), type := 83, pos := "l15_memory.go:303", after := #[], guard := none }) (v := .pointer (some ⟨lb, 0, none⟩)) rfl (by kernel_rfl) (by kernel_rfl) (by kernel_rfl) (fun _ _ _ h => h) (Or.inl ⟨by rfl, fun w0 hSw => by (go_simp)⟩) hH ?_
      simp only [Act.put, List.setIfInBounds_toArray, List.set_cons_zero, List.set_cons_succ]
      refine wpAnyH_take (i := 1) (oi := { dst := some 29, op := Op.move (Operand.tmp 3), type := 83, pos := "l15_memory.go:303", after := #[], guard := none }) (v := .pointer (some ⟨lb, 0, none⟩)) rfl (by kernel_rfl) (by kernel_rfl) (by kernel_rfl) (fun _ _ _ h => h) (Or.inl ⟨by rfl, fun w0 hSw => by (go_simp)⟩) hH ?_
      simp only [Act.put, List.setIfInBounds_toArray, List.set_cons_zero, List.set_cons_succ]
      refine wpAnyH_take (i := 2) (oi := { dst := some 30, op := Op.nilCheck (Operand.tmp 29), type := 0, pos := "l15_memory.go:303", after := #[{ on := 1, ground := Ground.data }], guard := none }) (v := .pointer (some ⟨lb, 0, none⟩)) rfl (by kernel_rfl) (by kernel_rfl) (by kernel_rfl) (fun _ _ _ h => h) (Or.inl ⟨by rfl, fun w0 hSw => by (go_simp)⟩) hH ?_
      simp only [Act.put, List.setIfInBounds_toArray, List.set_cons_zero, List.set_cons_succ]
      refine wpAnyH_take (i := 3) (oi := { dst := some 31, op := Op.fieldAddr 92 (Operand.tmp 30) 0, type := 0, pos := "l15_memory.go:303", after := #[{ on := 2, ground := Ground.data }], guard := none }) (v := .pointer (some ⟨lb, 0, none⟩)) rfl (by kernel_rfl) (by kernel_rfl) (by kernel_rfl) (fun _ _ _ h => h) (Or.inl ⟨by rfl, fun w0 hSw => by (go_simp)⟩) hH ?_
      simp only [Act.put, List.setIfInBounds_toArray, List.set_cons_zero, List.set_cons_succ]
      refine wpAnyH_take (i := 4) (oi := { dst := some 32, op := Op.fieldAddr 88 (Operand.tmp 31) 0, type := 0, pos := "l15_memory.go:303", after := #[{ on := 3, ground := Ground.data }], guard := none }) (v := .pointer (some ⟨lb, 0, none⟩)) rfl (by kernel_rfl) (by kernel_rfl) (by kernel_rfl) (fun _ _ _ h => h) (Or.inl ⟨by rfl, fun w0 hSw => by (go_simp)⟩) hH ?_
      simp only [Act.put, List.setIfInBounds_toArray, List.set_cons_zero, List.set_cons_succ]
      refine wpAnyH_take (i := 6) (oi := { dst := some 34, op := Op.move (Operand.tmp 5), type := 23, pos := "l15_memory.go:303", after := #[], guard := none }) (v := u) rfl (by kernel_rfl) (by kernel_rfl) (by kernel_rfl) (fun _ _ _ h => h) (Or.inl ⟨by rfl, fun w0 hSw => by (go_simp)⟩) hH ?_
      simp only [Act.put, List.setIfInBounds_toArray, List.set_cons_zero, List.set_cons_succ]
      refine wpAnyH_ready (rs := [5, 7]) (by kernel_rfl) (by simp) ?_
      refine (AllReadyH.cons (o := { dst := some 33, op := Op.load 40 (Operand.tmp 32), type := 40, pos := "l15_memory.go:303", after := #[{ on := 4, ground := Ground.data }], guard := none }) rfl (fun K hK => ?_) (AllReadyH.cons (o := { dst := some 35, op := Op.call { callee := Callee.value (Operand.func 79), args := #[Operand.tmp 34], argTypes := #[23] }, type := 23, pos := "l15_memory.go:303", after := #[{ on := 6, ground := Ground.data }], guard := none }) rfl (fun K hK => ?_) AllReadyH.nil))
      · refine step_val os WX (by rfl) (by have h1 := CX.c0; go_simp) ?_
        simp only [Act.put, List.setIfInBounds_toArray, List.set_cons_zero, List.set_cons_succ]
        refine hK.out _ _ trivial (fun hH' => ?_)
        clear hK K
        replace hH := hH'
        clear hH'
        refine wpAnyH_ready (rs := [7]) (by kernel_rfl) (by simp) ?_
        refine (AllReadyH.cons (o := { dst := some 35, op := Op.call { callee := Callee.value (Operand.func 79), args := #[Operand.tmp 34], argTypes := #[23] }, type := 23, pos := "l15_memory.go:303", after := #[{ on := 6, ground := Ground.data }], guard := none }) rfl (fun K hK => ?_) AllReadyH.nil)
        refine step_callC 79 #[u] (fun z v w' => Ri v.heap.size w' z (f k) ∧ Below v.heap.size v w') (by rfl) (by go_simp) ((pclone u (f k) _ HRU.out (by omega)).mono fun e w' ⟨z, h1, h2, h3⟩ => ⟨z, h1, h2, h3⟩) ?_
        rintro v1 w1 ⟨R1, B1⟩
        obtain ⟨va, vn, vc, hv1⟩ : ∃ va vn vc, v1 = .slice va vn vc := by obtain ⟨a, c, h, _⟩ := R1.arow; exact ⟨_, _, _, h⟩
        simp only [Act.put, List.setIfInBounds_toArray, List.set_cons_zero, List.set_cons_succ]
        refine hK.out _ _ trivial (fun hH' => ?_)
        clear hK K
        replace hH := hH'
        clear hH'
        refine wpAnyH_ready (rs := [8]) (by kernel_rfl) (by simp) ?_
        refine (AllReadyH.cons (o := { dst := some 36, op := Op.buildSlice 40 1 #[(0, Operand.tmp 35)], type := 40, pos := "l15_memory.go:303", after := #[{ on := 7, ground := Ground.data }], guard := none }) rfl (fun K hK => ?_) AllReadyH.nil)
        refine step_val (.slice (some ⟨w1.heap.size, 0, none⟩) 1 1) (w1.alloc (.cells #[v1] 23)) (by rfl) (by rw [hv1]; go_simp) ?_
        simp only [Act.put, List.setIfInBounds_toArray, List.set_cons_zero, List.set_cons_succ]
        refine hK.out _ _ trivial (fun hH' => ?_)
        clear hK K
        replace hH := hH'
        clear hH'
        clear hv1
        refine wpAnyH_ready (rs := [9]) (by kernel_rfl) (by simp) ?_
        refine (AllReadyH.cons (o := { dst := some 37, op := Op.call { callee := Callee.builtin Builtin.append, args := #[Operand.tmp 33, Operand.tmp 36], argTypes := #[40, 40] }, type := 40, pos := "l15_memory.go:303", after := #[{ on := 5, ground := Ground.data }, { on := 8, ground := Ground.data }, { on := 7, ground := Ground.chain }], guard := none }) rfl (fun K hK => ?_) AllReadyH.nil)
        obtain ⟨v4, w4, hr4, DN, CN, CS, BN, hform⟩ := DX.step CX (by omega) R1 B1
        refine step_app (.tmp 33) (.tmp 36) 40 _ _ v4 w4 (by rfl) (by rfl) (by rfl) (by rfl) hr4 ?_
        simp only [Act.put, List.setIfInBounds_toArray, List.set_cons_zero, List.set_cons_succ]
        refine hK.out _ _ trivial (fun hH' => ?_)
        clear hK K
        replace hH := hH'
        clear hH'
        clear hr4
        refine wpAnyH_take (i := 10) (oi := { dst := some 38, op := Op.nilCheck (Operand.tmp 28), type := 0, pos := "l15_memory.go:303", after := #[{ on := 0, ground := Ground.data }, { on := 0, ground := Ground.phase }, { on := 1, ground := Ground.phase }, { on := 2, ground := Ground.phase }, { on := 3, ground := Ground.phase }, { on := 4, ground := Ground.phase }, { on := 5, ground := Ground.phase }, { on := 6, ground := Ground.phase }, { on := 7, ground := Ground.phase }, { on := 8, ground := Ground.phase }, { on := 9, ground := Ground.phase }], guard := none }) (v := .pointer (some ⟨lb, 0, none⟩)) rfl (by kernel_rfl) (by kernel_rfl) (by kernel_rfl) (fun _ _ _ h => h) (Or.inl ⟨by rfl, fun w0 hSw => by (go_simp)⟩) hH ?_
        simp only [Act.put, List.setIfInBounds_toArray, List.set_cons_zero, List.set_cons_succ]
        refine wpAnyH_take (i := 11) (oi := { dst := some 39, op := Op.fieldAddr 92 (Operand.tmp 38) 0, type := 0, pos := "l15_memory.go:303", after := #[{ on := 10, ground := Ground.data }, { on := 0, ground := Ground.phase }, { on := 1, ground := Ground.phase }, { on := 2, ground := Ground.phase }, { on := 3, ground := Ground.phase }, { on := 4, ground := Ground.phase }, { on := 5, ground := Ground.phase }, { on := 6, ground := Ground.phase }, { on := 7, ground := Ground.phase }, { on := 8, ground := Ground.phase }, { on := 9, ground := Ground.phase }], guard := none }) (v := .pointer (some ⟨lb, 0, none⟩)) rfl (by kernel_rfl) (by kernel_rfl) (by kernel_rfl) (fun _ _ _ h => h) (Or.inl ⟨by rfl, fun w0 hSw => by (go_simp)⟩) hH ?_
        simp only [Act.put, List.setIfInBounds_toArray, List.set_cons_zero, List.set_cons_succ]
        refine wpAnyH_take (i := 12) (oi := { dst := some 40, op := Op.fieldAddr 88 (Operand.tmp 39) 0, type := 0, pos := "l15_memory.go:303", after := #[{ on := 11, ground := Ground.data }, { on := 0, ground := Ground.phase }, { on := 1, ground := Ground.phase }, { on := 2, ground := Ground.phase }, { on := 3, ground := Ground.phase }, { on := 4, ground := Ground.phase }, { on := 5, ground := Ground.phase }, { on := 6, ground := Ground.phase }, { on := 7, ground := Ground.phase }, { on := 8, ground := Ground.phase }, { on := 9, ground := Ground.phase }], guard := none }) (v := .pointer (some ⟨lb, 0, none⟩)) rfl (by kernel_rfl) (by kernel_rfl) (by kernel_rfl) (fun _ _ _ h => h) (Or.inl ⟨by rfl, fun w0 hSw => by (go_simp)⟩) hH ?_
        simp only [Act.put, List.setIfInBounds_toArray, List.set_cons_zero, List.set_cons_succ]
        refine wpAnyH_ready (rs := [13]) (by kernel_rfl) (by simp) ?_
        refine (AllReadyH.cons (o := { dst := none, op := Op.store 40 (Operand.tmp 40) (Operand.tmp 37), type := 0, pos := "l15_memory.go:303", after := #[{ on := 12, ground := Ground.data }, { on := 9, ground := Ground.data }, { on := 9, ground := Ground.chain }, { on := 0, ground := Ground.phase }, { on := 1, ground := Ground.phase }, { on := 2, ground := Ground.phase }, { on := 3, ground := Ground.phase }, { on := 4, ground := Ground.phase }, { on := 5, ground := Ground.phase }, { on := 6, ground := Ground.phase }, { on := 7, ground := Ground.phase }, { on := 8, ground := Ground.phase }, { on := 9, ground := Ground.phase }], guard := none }) rfl (fun K hK => ?_) AllReadyH.nil)
        refine step_skip (w4.setCell ⟨lb, 0, none⟩ v4) (by rfl) (by obtain ⟨a4, k4, hv4⟩ := hform; have f4 := CN.f 0; have c4 := CN.c0; rw [hv4]; go_simp) ?_
        refine hK.out _ _ trivial (fun hH' => ?_)
        clear hK K hH' hH
        refine wpAnyH_done (by kernel_rfl) ?_ _
        go_wp2
        go_roundw
        case rel => exact ⟨k + 1, v4, upV U k v1, by omega, by go_num, CS, DN, BX.trans (BN.mono (by have := HLW.out; omega))⟩
        case measure => simp [intOf]; omega
      · refine step_callC 79 #[u] (fun z v w' => Ri v.heap.size w' z (f k) ∧ Below v.heap.size v w') (by rfl) (by go_simp) ((pclone u (f k) _ HRU.out (by omega)).mono fun e w' ⟨z, h1, h2, h3⟩ => ⟨z, h1, h2, h3⟩) ?_
        rintro v1 w1 ⟨R1, B1⟩
        obtain ⟨va, vn, vc, hv1⟩ : ∃ va vn vc, v1 = .slice va vn vc := by obtain ⟨a, c, h, _⟩ := R1.arow; exact ⟨_, _, _, h⟩
        simp only [Act.put, List.setIfInBounds_toArray, List.set_cons_zero, List.set_cons_succ]
        refine hK.out _ _ trivial (fun hH' => ?_)
        clear hK K
        replace hH := hH'
        clear hH'
        refine wpAnyH_ready (rs := [5, 8]) (by kernel_rfl) (by simp) ?_
        refine (AllReadyH.cons (o := { dst := some 33, op := Op.load 40 (Operand.tmp 32), type := 40, pos := "l15_memory.go:303", after := #[{ on := 4, ground := Ground.data }], guard := none }) rfl (fun K hK => ?_) (AllReadyH.cons (o := { dst := some 36, op := Op.buildSlice 40 1 #[(0, Operand.tmp 35)], type := 40, pos := "l15_memory.go:303", after := #[{ on := 7, ground := Ground.data }], guard := none }) rfl (fun K hK => ?_) AllReadyH.nil))
        · refine step_val os w1 (by rfl) (by have h1 := (cell_nx CX.c0 B1); go_simp) ?_
          simp only [Act.put, List.setIfInBounds_toArray, List.set_cons_zero, List.set_cons_succ]
          refine hK.out _ _ trivial (fun hH' => ?_)
          clear hK K
          replace hH := hH'
          clear hH'
          refine wpAnyH_ready (rs := [8]) (by kernel_rfl) (by simp) ?_
          refine (AllReadyH.cons (o := { dst := some 36, op := Op.buildSlice 40 1 #[(0, Operand.tmp 35)], type := 40, pos := "l15_memory.go:303", after := #[{ on := 7, ground := Ground.data }], guard := none }) rfl (fun K hK => ?_) AllReadyH.nil)
          refine step_val (.slice (some ⟨w1.heap.size, 0, none⟩) 1 1) (w1.alloc (.cells #[v1] 23)) (by rfl) (by rw [hv1]; go_simp) ?_
          simp only [Act.put, List.setIfInBounds_toArray, List.set_cons_zero, List.set_cons_succ]
          refine hK.out _ _ trivial (fun hH' => ?_)
          clear hK K
          replace hH := hH'
          clear hH'
          clear hv1
          refine wpAnyH_ready (rs := [9]) (by kernel_rfl) (by simp) ?_
          refine (AllReadyH.cons (o := { dst := some 37, op := Op.call { callee := Callee.builtin Builtin.append, args := #[Operand.tmp 33, Operand.tmp 36], argTypes := #[40, 40] }, type := 40, pos := "l15_memory.go:303", after := #[{ on := 5, ground := Ground.data }, { on := 8, ground := Ground.data }, { on := 7, ground := Ground.chain }], guard := none }) rfl (fun K hK => ?_) AllReadyH.nil)
          obtain ⟨v4, w4, hr4, DN, CN, CS, BN, hform⟩ := DX.step CX (by omega) R1 B1
          refine step_app (.tmp 33) (.tmp 36) 40 _ _ v4 w4 (by rfl) (by rfl) (by rfl) (by rfl) hr4 ?_
          simp only [Act.put, List.setIfInBounds_toArray, List.set_cons_zero, List.set_cons_succ]
          refine hK.out _ _ trivial (fun hH' => ?_)
          clear hK K
          replace hH := hH'
          clear hH'
          clear hr4
          refine wpAnyH_take (i := 10) (oi := { dst := some 38, op := Op.nilCheck (Operand.tmp 28), type := 0, pos := "l15_memory.go:303", after := #[{ on := 0, ground := Ground.data }, { on := 0, ground := Ground.phase }, { on := 1, ground := Ground.phase }, { on := 2, ground := Ground.phase }, { on := 3, ground := Ground.phase }, { on := 4, ground := Ground.phase }, { on := 5, ground := Ground.phase }, { on := 6, ground := Ground.phase }, { on := 7, ground := Ground.phase }, { on := 8, ground := Ground.phase }, { on := 9, ground := Ground.phase }], guard := none }) (v := .pointer (some ⟨lb, 0, none⟩)) rfl (by kernel_rfl) (by kernel_rfl) (by kernel_rfl) (fun _ _ _ h => h) (Or.inl ⟨by rfl, fun w0 hSw => by (go_simp)⟩) hH ?_
          simp only [Act.put, List.setIfInBounds_toArray, List.set_cons_zero, List.set_cons_succ]
          refine wpAnyH_take (i := 11) (oi := { dst := some 39, op := Op.fieldAddr 92 (Operand.tmp 38) 0, type := 0, pos := "l15_memory.go:303", after := #[{ on := 10, ground := Ground.data }, { on := 0, ground := Ground.phase }, { on := 1, ground := Ground.phase }, { on := 2, ground := Ground.phase }, { on := 3, ground := Ground.phase }, { on := 4, ground := Ground.phase }, { on := 5, ground := Ground.phase }, { on := 6, ground := Ground.phase }, { on := 7, ground := Ground.phase }, { on := 8, ground := Ground.phase }, { on := 9, ground := Ground.phase }], guard := none }) (v := .pointer (some ⟨lb, 0, none⟩)) rfl (by kernel_rfl) (by kernel_rfl) (by kernel_rfl) (fun _ _ _ h => h) (Or.inl ⟨by rfl, fun w0 hSw => by (go_simp)⟩) hH ?_
          simp only [Act.put, List.setIfInBounds_toArray, List.set_cons_zero, List.set_cons_succ]
          refine wpAnyH_take (i := 12) (oi := { dst := some 40, op := Op.fieldAddr 88 (Operand.tmp 39) 0, type := 0, pos := "l15_memory.go:303", after := #[{ on := 11, ground := Ground.data }, { on := 0, ground := Ground.phase }, { on := 1, ground := Ground.phase }, { on := 2, ground := Ground.phase }, { on := 3, ground := Ground.phase }, { on := 4, ground := Ground.phase }, { on := 5, ground := Ground.phase }, { on := 6, ground := Ground.phase }, { on := 7, ground := Ground.phase }, { on := 8, ground := Ground.phase }, { on := 9, ground := Ground.phase }], guard := none }) (v := .pointer (some ⟨lb, 0, none⟩)) rfl (by kernel_rfl) (by kernel_rfl) (by kernel_rfl) (fun _ _ _ h => h) (Or.inl ⟨by rfl, fun w0 hSw => by (go_simp)⟩) hH ?_
          simp only [Act.put, List.setIfInBounds_toArray, List.set_cons_zero, List.set_cons_succ]
          refine wpAnyH_ready (rs := [13]) (by kernel_rfl) (by simp) ?_
          refine (AllReadyH.cons (o := { dst := none, op := Op.store 40 (Operand.tmp 40) (Operand.tmp 37), type := 0, pos := "l15_memory.go:303", after := #[{ on := 12, ground := Ground.data }, { on := 9, ground := Ground.data }, { on := 9, ground := Ground.chain }, { on := 0, ground := Ground.phase }, { on := 1, ground := Ground.phase }, { on := 2, ground := Ground.phase }, { on := 3, ground := Ground.phase }, { on := 4, ground := Ground.phase }, { on := 5, ground := Ground.phase }, { on := 6, ground := Ground.phase }, { on := 7, ground := Ground.phase }, { on := 8, ground := Ground.phase }, { on := 9, ground := Ground.phase }], guard := none }) rfl (fun K hK => ?_) AllReadyH.nil)
          refine step_skip (w4.setCell ⟨lb, 0, none⟩ v4) (by rfl) (by obtain ⟨a4, k4, hv4⟩ := hform; have f4 := CN.f 0; have c4 := CN.c0; rw [hv4]; go_simp) ?_
          refine hK.out _ _ trivial (fun hH' => ?_)
          clear hK K hH' hH
          refine wpAnyH_done (by kernel_rfl) ?_ _
          go_wp2
          go_roundw
          case rel => exact ⟨k + 1, v4, upV U k v1, by omega, by go_num, CS, DN, BX.trans (BN.mono (by have := HLW.out; omega))⟩
          case measure => simp [intOf]; omega
        · refine step_val (.slice (some ⟨w1.heap.size, 0, none⟩) 1 1) (w1.alloc (.cells #[v1] 23)) (by rfl) (by rw [hv1]; go_simp) ?_
          simp only [Act.put, List.setIfInBounds_toArray, List.set_cons_zero, List.set_cons_succ]
          refine hK.out _ _ trivial (fun hH' => ?_)
          clear hK K
          replace hH := hH'
          clear hH'
          clear hv1
          refine wpAnyH_ready (rs := [5]) (by kernel_rfl) (by simp) ?_
          refine (AllReadyH.cons (o := { dst := some 33, op := Op.load 40 (Operand.tmp 32), type := 40, pos := "l15_memory.go:303", after := #[{ on := 4, ground := Ground.data }], guard := none }) rfl (fun K hK => ?_) AllReadyH.nil)
          refine step_val os (w1.alloc (.cells #[v1] 23)) (by rfl) (by have h1 := (cell_nx (cell_nx CX.c0 B1) (alloc_b (o := .cells #[v1] 23))); go_simp) ?_
          simp only [Act.put, List.setIfInBounds_toArray, List.set_cons_zero, List.set_cons_succ]
          refine hK.out _ _ trivial (fun hH' => ?_)
          clear hK K
          replace hH := hH'
          clear hH'
          refine wpAnyH_ready (rs := [9]) (by kernel_rfl) (by simp) ?_
          refine (AllReadyH.cons (o := { dst := some 37, op := Op.call { callee := Callee.builtin Builtin.append, args := #[Operand.tmp 33, Operand.tmp 36], argTypes := #[40, 40] }, type := 40, pos := "l15_memory.go:303", after := #[{ on := 5, ground := Ground.data }, { on := 8, ground := Ground.data }, { on := 7, ground := Ground.chain }], guard := none }) rfl (fun K hK => ?_) AllReadyH.nil)
          obtain ⟨v4, w4, hr4, DN, CN, CS, BN, hform⟩ := DX.step CX (by omega) R1 B1
          refine step_app (.tmp 33) (.tmp 36) 40 _ _ v4 w4 (by rfl) (by rfl) (by rfl) (by rfl) hr4 ?_
          simp only [Act.put, List.setIfInBounds_toArray, List.set_cons_zero, List.set_cons_succ]
          refine hK.out _ _ trivial (fun hH' => ?_)
          clear hK K
          replace hH := hH'
          clear hH'
          clear hr4
          refine wpAnyH_take (i := 10) (oi := { dst := some 38, op := Op.nilCheck (Operand.tmp 28), type := 0, pos := "l15_memory.go:303", after := #[{ on := 0, ground := Ground.data }, { on := 0, ground := Ground.phase }, { on := 1, ground := Ground.phase }, { on := 2, ground := Ground.phase }, { on := 3, ground := Ground.phase }, { on := 4, ground := Ground.phase }, { on := 5, ground := Ground.phase }, { on := 6, ground := Ground.phase }, { on := 7, ground := Ground.phase }, { on := 8, ground := Ground.phase }, { on := 9, ground := Ground.phase }], guard := none }) (v := .pointer (some ⟨lb, 0, none⟩)) rfl (by kernel_rfl) (by kernel_rfl) (by kernel_rfl) (fun _ _ _ h => h) (Or.inl ⟨by rfl, fun w0 hSw => by (go_simp)⟩) hH ?_
          simp only [Act.put, List.setIfInBounds_toArray, List.set_cons_zero, List.set_cons_succ]
          refine wpAnyH_take (i := 11) (oi := { dst := some 39, op := Op.fieldAddr 92 (Operand.tmp 38) 0, type := 0, pos := "l15_memory.go:303", after := #[{ on := 10, ground := Ground.data }, { on := 0, ground := Ground.phase }, { on := 1, ground := Ground.phase }, { on := 2, ground := Ground.phase }, { on := 3, ground := Ground.phase }, { on := 4, ground := Ground.phase }, { on := 5, ground := Ground.phase }, { on := 6, ground := Ground.phase }, { on := 7, ground := Ground.phase }, { on := 8, ground := Ground.phase }, { on := 9, ground := Ground.phase }], guard := none }) (v := .pointer (some ⟨lb, 0, none⟩)) rfl (by kernel_rfl) (by kernel_rfl) (by kernel_rfl) (fun _ _ _ h => h) (Or.inl ⟨by rfl, fun w0 hSw => by (go_simp)⟩) hH ?_
          simp only [Act.put, List.setIfInBounds_toArray, List.set_cons_zero, List.set_cons_succ]
          refine wpAnyH_take (i := 12) (oi := { dst := some 40, op := Op.fieldAddr 88 (Operand.tmp 39) 0, type := 0, pos := "l15_memory.go:303", after := #[{ on := 11, ground := Ground.data }, { on := 0, ground := Ground.phase }, { on := 1, ground := Ground.phase }, { on := 2, ground := Ground.phase }, { on := 3, ground := Ground.phase }, { on := 4, ground := Ground.phase }, { on := 5, ground := Ground.phase }, { on := 6, ground := Ground.phase }, { on := 7, ground := Ground.phase }, { on := 8, ground := Ground.phase }, { on := 9, ground := Ground.phase }], guard := none }) (v := .pointer (some ⟨lb, 0, none⟩)) rfl (by kernel_rfl) (by kernel_rfl) (by kernel_rfl) (fun _ _ _ h => h) (Or.inl ⟨by rfl, fun w0 hSw => by (go_simp)⟩) hH ?_
          simp only [Act.put, List.setIfInBounds_toArray, List.set_cons_zero, List.set_cons_succ]
          refine wpAnyH_ready (rs := [13]) (by kernel_rfl) (by simp) ?_
          refine (AllReadyH.cons (o := { dst := none, op := Op.store 40 (Operand.tmp 40) (Operand.tmp 37), type := 0, pos := "l15_memory.go:303", after := #[{ on := 12, ground := Ground.data }, { on := 9, ground := Ground.data }, { on := 9, ground := Ground.chain }, { on := 0, ground := Ground.phase }, { on := 1, ground := Ground.phase }, { on := 2, ground := Ground.phase }, { on := 3, ground := Ground.phase }, { on := 4, ground := Ground.phase }, { on := 5, ground := Ground.phase }, { on := 6, ground := Ground.phase }, { on := 7, ground := Ground.phase }, { on := 8, ground := Ground.phase }, { on := 9, ground := Ground.phase }], guard := none }) rfl (fun K hK => ?_) AllReadyH.nil)
          refine step_skip (w4.setCell ⟨lb, 0, none⟩ v4) (by rfl) (by obtain ⟨a4, k4, hv4⟩ := hform; have f4 := CN.f 0; have c4 := CN.c0; rw [hv4]; go_simp) ?_
          refine hK.out _ _ trivial (fun hH' => ?_)
          clear hK K hH' hH
          refine wpAnyH_done (by kernel_rfl) ?_ _
          go_wp2
          go_roundw
          case rel => exact ⟨k + 1, v4, upV U k v1, by omega, by go_num, CS, DN, BX.trans (BN.mono (by have := HLW.out; omega))⟩
          case measure => simp [intOf]; omega
    · obtain rfl : k = m := by omega
      have i1 : ¬ (k : Int) < (k : Int) := by omega
      go_wp2
      obtain ⟨gm, cp, rfl, hcp, KX⟩ := HD.out.done m1
      go_ret
      first | exact ⟨lb, gm, cp, U, rfl, HC.out, hcp, KX, HBr.out⟩ | exact ⟨lb, rfl, gm, cp, HC.out, hcp, ⟨U, KX⟩, HBr.out⟩
end Go.Proofs.Ytfhpjcojccfcoaa
