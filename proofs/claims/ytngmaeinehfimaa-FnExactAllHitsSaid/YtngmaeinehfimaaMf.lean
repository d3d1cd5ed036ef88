/- Hits of a ray, each put in where it stands: the model. -/
import Derived.Test.YtngmaeinehfimaaMd
import Derived.Test.YtngmaeinehfimaaMe
import Derived.Test.YtngmaeinehfimaaLk
namespace Go.Proofs.Ytngmaeinehfimaa
open Go.ChangeShapes Go.WideShapes Go.ChangeAt Go.RowKit
set_option linter.unusedVariables false
/-- Whether and where a ray hits the block at a place of a list. -/
def hP (L : List TB) (F W : List Int) (i : Nat) : Bool := hiB (fun j => (tb L i).1.getD j 0) (fun j => (tb L i).2.getD j 0) (fun j => F.getD j 0) (fun j => W.getD j 0)
def hA (L : List TB) (F W : List Int) (i : Nat) : Int := hiN (fun j => (tb L i).1.getD j 0) (fun j => (tb L i).2.getD j 0) (fun j => F.getD j 0) (fun j => W.getD j 0)
def hD (L : List TB) (F W : List Int) (i : Nat) : Int := hiD (fun j => (tb L i).1.getD j 0) (fun j => (tb L i).2.getD j 0) (fun j => F.getD j 0) (fun j => W.getD j 0)
theorem abs_parts {L : List TB} (h : absB L = true) : L.length ≤ 24 ∧ ∀ i, i < L.length → gbB (tb L i).1 (tb L i).2 = true := by
  unfold absB at h
  rw [Bool.and_eq_true, decide_eq_true_eq] at h
  exact ⟨h.1, bg_iff.1 h.2⟩
/-- Where a ray hits a good block: no earlier than at once; a fraction of bounded numbers. -/
theorem hit_bnd {L : List TB} {F W : List Int} (hb : absB L = true) (hr : grB F W = true) {i : Nat} (hi : i < L.length) : MB (hA L F W i) (hD L F W i) ∧ 0 ≤ hA L F W i := by
  obtain ⟨-, -, iL, iH, -⟩ := gb_parts ((abs_parts hb).2 i hi)
  obtain ⟨-, -, iF, iW, -⟩ := gr_parts hr
  have h1 := fst_pos (fun j => (tb L i).1.getD j 0) (fun j => (tb L i).2.getD j 0) (fun j => F.getD j 0) (fun j => W.getD j 0) 3
  have h2 := fst_bnd iL iH iF iW 3 (Nat.le_refl _)
  refine ⟨?_, rdN_nn h1.2⟩
  have h3 : MB (fst (fun j => (tb L i).1.getD j 0) (fun j => (tb L i).2.getD j 0) (fun j => F.getD j 0) (fun j => W.getD j 0) 3).1 (fst (fun j => (tb L i).1.getD j 0) (fun j => (tb L i).2.getD j 0) (fun j => F.getD j 0) (fun j => W.getD j 0) 3).2 := ⟨⟨by omega, h2.2⟩, h1.1, h2.1⟩
  exact mb_rd h3
theorem mhitT {L : List TB} {F W : List Int} (hb : absB L = true) (hr : grB F W = true) {i : Nat} (hi : i < L.length) (u v x y : Value) (w : World) (U : ARow w u (tb L i).1) (V : ARow w v (tb L i).2) (X : ARow w x F) (Y : ARow w y W) :
    Calls Try.prog 54 #[.agg #[u, v], .agg #[x, y]] w fun e w' => ∃ n d : Int, e = .returned (.tuple #[.agg #[.int .i64 n, .int .i64 d], .bool (hP L F W i)]) ∧ (hP L F W i = true → n = hA L F W i ∧ d = hD L F W i) ∧ Below w.heap.size w w' := by
  obtain ⟨l1, l2, iL, iH, hLH⟩ := gb_parts ((abs_parts hb).2 i hi)
  obtain ⟨l3, l4, iF, iW, hW0⟩ := gr_parts hr
  exact mhit u v x y _ _ _ _ w (r3_of U l1) (r3_of V l2) (r3_of X l3) (r3_of Y l4) iL iH iF iW hLH hW0
theorem grown_none {w w' : World} (h : w.grownBy w' none) : Below w.heap.size w w' := ⟨h.os, h.tape, h.output, h.size, fun k hk => h.block k hk (by simp)⟩
theorem HR.at {B : Nat} {w : World} {g n c q : Nat} {L : List TupH} (h : HR B w (.slice (some ⟨g, 0, none⟩) n c) L) (hq : q < L.length) : w.cell? ⟨g, q * 3, none⟩ = some (.int .i64 (atH0 L q)) ∧ w.cell? ⟨g, q * 3 + 1, none⟩ = some (.int .i64 (atH1 L q)) ∧ w.cell? ⟨g, q * 3 + 2, none⟩ = some (.int .i64 (atH2 L q)) := by
  rcases h.form with ⟨_, e⟩ | ⟨g', c', e, _, _, _, _, hc⟩
  · injection e with e; cases e
  · injection e with e1
    injection e1 with e1
    injection e1 with e1
    subst e1
    obtain ⟨a, b, c⟩ := cellsH_at L q hq
    exact ⟨(hc _ (by omega)).trans a, (hc _ (by omega)).trans b, (hc _ (by omega)).trans c⟩
theorem HR.all {B : Nat} {w : World} {g n c : Nat} {L : List TupH} (h : HR B w (.slice (some ⟨g, 0, none⟩) n c) L) (j : Nat) (hj : j < L.length * 3) : w.cell? ⟨g, j, none⟩ = (cellsH L)[j]? := by
  rcases h.form with ⟨_, e⟩ | ⟨g', c', e, _, _, _, _, hc⟩
  · injection e with e; cases e
  · injection e with e1
    injection e1 with e1
    injection e1 with e1
    subst e1
    exact hc j hj
theorem src_take {B : Nat} {w : World} {g n c : Nat} {L : List TupH} (h : HR B w (.slice (some ⟨g, 0, none⟩) n c) L) (p : Nat) : Src w (some ⟨g, 0, none⟩) (L.take p) := by
  refine Or.inr ⟨g, 0, rfl, fun j hj => ?_⟩
  rw [List.length_take] at hj
  rw [Nat.zero_add, cellsH_take L p j (by omega)]
  exact h.all j (by omega)
theorem src_drop {B : Nat} {w : World} {g n c : Nat} {L : List TupH} (h : HR B w (.slice (some ⟨g, 0, none⟩) n c) L) (p : Nat) : Src w (some ⟨g, p * 3, none⟩) (L.drop p) := by
  refine Or.inr ⟨g, p * 3, rfl, fun j hj => ?_⟩
  rw [List.length_drop] at hj
  rw [cellsH_drop]
  exact h.all _ (by omega)
theorem HR.is {B : Nat} {w : World} {v : Value} {L : List TupH} (h : HR B w v L) : ∃ a c, v = .slice a L.length c := by
  rcases h.form with ⟨rfl, rfl⟩ | ⟨g, c, rfl, _⟩
  · exact ⟨_, _, rfl⟩
  · exact ⟨_, _, rfl⟩
set_option maxRecDepth 100000 in
set_option maxHeartbeats 8000000 in
theorem mall (v x y : Value) (L : List TB) (F W : List Int) (w : World) (U : BRow w v L) (X : ARow w x F) (Y : ARow w y W) (hb : absB L = true) (hr : grB F W = true) :
    Calls Try.prog 57 #[v, .agg #[x, y]] w fun e w' => ∃ r, e = .returned r ∧ HR w.heap.size w' r (hitsM (hP L F W) (hA L F W) (hD L F W) L.length) ∧ Below w.heap.size w w' := by
  obtain ⟨ad, c, rfl, hrow⟩ := U
  have X' := X
  have Y' := Y
  obtain ⟨fd, fc, rfl, -⟩ := X
  obtain ⟨gd, gc, rfl, -⟩ := Y
  have HE : Hid (∀ i, i < L.length → ∃ g o ua ul uc xa xl xc, ad = some ⟨g, o, none⟩ ∧ w.cell? ⟨g, o + i * 2, none⟩ = some (.slice ua ul uc) ∧ w.cell? ⟨g, o + i * 2 + 1, none⟩ = some (.slice xa xl xc) ∧ ∀ w' : World, Below w.heap.size w w' →
      Calls Try.prog 54 #[.agg #[.slice ua ul uc, .slice xa xl xc], .agg #[.slice fd F.length fc, .slice gd W.length gc]] w' fun e w'' => ∃ n d : Int, e = .returned (.tuple #[.agg #[.int .i64 n, .int .i64 d], .bool (hP L F W i)]) ∧ (hP L F W i = true → n = hA L F W i ∧ d = hD L F W i) ∧ Below w'.heap.size w' w'') := fun i hi => by
    obtain ⟨g, o, u, x, e1, e2, e3, e4, e5⟩ := hrow i hi
    have e4' := e4
    have e5' := e5
    obtain ⟨ua, uc, rfl, -⟩ := e4
    obtain ⟨xa, xc, rfl, -⟩ := e5
    exact ⟨g, o, _, _, _, _, _, _, e1, e2, e3, fun w' b => mhitT hb hr hi _ _ _ _ w' (e4'.next b) (e5'.next b) (X'.next b) (Y'.next b)⟩
  have HB : Hid (∀ i, i < L.length → MB (hA L F W i) (hD L F W i)) := fun i hi => (hit_bnd hb hr hi).1
  have h24 := (abs_parts hb).1
  clear hrow X' Y' hb hr
  generalize hP L F W = P at HE HB ⊢
  generalize hA L F W = A at HE HB ⊢
  generalize hD L F W = D at HE HB ⊢
  obtain ⟨n, hn⟩ : ∃ n, L.length = n := ⟨_, rfl⟩
  obtain ⟨fl, hfl⟩ : ∃ fl, F.length = fl := ⟨_, rfl⟩
  obtain ⟨gl, hgl⟩ : ∃ gl, W.length = gl := ⟨_, rfl⟩
  rw [hn] at HE HB h24 ⊢
  rw [hfl] at HE ⊢
  rw [hgl] at HE ⊢
  clear hn hfl hgl
  have HMB : Hid (∀ k, k ≤ n → ∀ j, j < (hitsM P A D k).length → MB (atH1 (hitsM P A D k) j) (atH2 (hitsM P A D k) j)) := fun k hk j hj => by
    obtain ⟨i, hi, -, e⟩ := hitsU_mem (hitsM_mem.1 (List.getElem_mem hj))
    have h : (hitsM P A D k).getD j (0, 0, 0) = ((i : Int), A i, D i) := by rw [← e]; simp [List.getD, hj]
    unfold atH1 atH2
    rw [h]
    exact HB.out i (by omega)
  obtain ⟨W0, hW0⟩ : ∃ W0, w.alloc (.cells #[.slice fd fl fc, .slice gd gl gc] 35) = W0 := ⟨_, rfl⟩
  have BW : Below w.heap.size w W0 := by rw [← hW0]; exact alloc_b
  have CR : C2 W0 w.heap.size (.slice fd fl fc) (.slice gd gl gc) := by rw [← hW0]; exact C2.new w _ _ _
  have HW0 := Hid.mk hW0
  go_enter Try.func57, Try.ntmps57
  go_wp2
  clear hW0
  go_loopw [5, 14] (fun v i wr => ∃ k : Nat, k ≤ n ∧ i = .int .i64 k ∧ Hid (HR w.heap.size wr v (hitsM P A D k)) ∧ Below W0.heap.size W0 wr) (fun _ i _ => n - (intOf i).toNat)
  case atStart => exact ⟨0, Nat.zero_le _, rfl, HR.nil _ _ BW.size, Below.refl _ _⟩
  case round =>
    obtain ⟨k, hk, rfl, HH, HBW⟩ := hrel
    by_cases hkn : k < n
    · have i1 : (k : Int) < (n : Int) := by omega
      have i0 : (0 : Int) ≤ (k : Int) := by omega
      obtain ⟨g, o, ua, ul, uc, xa, xl, xc, rfl, hc0, hc1, hC⟩ := HE.out k hkn
      have c0 := cell_nx hc0 (BW.trans (HBW.mono BW.size))
      have c1 := cell_nx hc1 (BW.trans (HBW.mono BW.size))
      obtain ⟨WA, hWA⟩ : ∃ WA, wr.alloc (.cells #[.slice ua ul uc, .slice xa xl xc] 27) = WA := ⟨_, rfl⟩
      have BA : Below wr.heap.size wr WA := by rw [← hWA]; exact alloc_b
      have BA0 : Below W0.heap.size W0 WA := HBW.trans (BA.mono HBW.size)
      have HC := Hid.mk (hC WA (BW.trans (BA0.mono BW.size)))
      have CA : C2 WA wr.heap.size (.slice ua ul uc) (.slice xa xl xc) := by rw [← hWA]; exact C2.new wr _ _ _
      have a0 := CA.c0
      have a1 := CA.c1
      have CRA := CR.next BA0
      have r0 := CRA.c0
      have r1 := CRA.c1
      have HHA : Hid (HR w.heap.size WA _ (hitsM P A D k)) := HH.out.next BA
      have HDk := Hid.mk (HB.out k hkn)
      have HMk := Hid.mk (HMB.out k hk)
      have HS : Hid (∀ b, P k = b → hitsM P A D (k + 1) = if b = true then insH ((k : Int), A k, D k) (hitsM P A D k) else hitsM P A D k) := fun b h => by rw [← h]; rfl
      have hlen : (hitsM P A D k).length ≤ 24 := by have := hitsM_len (P := P) (A := A) (D := D) k; omega
      clear hc0 hc1 hC HE HB HMB HH HW0
      generalize hM : hitsM P A D k = M at HHA HMk HS hlen
      cases hp : P k
      · rw [hp] at HC
        have HS2 := HS.out false hp
        have HS3 : Hid (hitsM P A D (k + 1) = M) := HS2
        clear HS HS2 HDk HMk hp
        go_wp2_with (go_at_call 54; refine HC.out.mono ?_; rintro e w2 ⟨n1, d1, rfl, -, B2⟩)
        go_roundw
        case rel => exact ⟨k + 1, by omega, by go_num, by rw [HS3.out]; exact (HHA.out.next B2).next alloc_b, BA0.trans ((B2.trans ((alloc_b (o := _)).mono B2.size)).mono BA0.size)⟩
        case measure => simp [intOf]; omega
      · rw [hp] at HC
        have HS3 : Hid (hitsM P A D (k + 1) = insH ((k : Int), A k, D k) M) := HS.out true hp
        have HD2 := Hid.mk HDk.out
        obtain ⟨tn, htn⟩ : ∃ tn, A k = tn := ⟨_, rfl⟩
        obtain ⟨td, htd⟩ : ∃ td, D k = td := ⟨_, rfl⟩
        rw [htn, htd] at HS3 HD2
        have HTN : Hid (A k = tn ∧ D k = td) := ⟨htn, htd⟩
        clear HS HDk hp htn htd
        rcases HHA.out.form with ⟨rfl, rfl⟩ | ⟨og, oc, rfl, hoc1, hoc2, hog1, hog2, -⟩
        · go_wp2_with (go_at_call 54; refine HC.out.mono ?_; rintro e w2 ⟨n1, d1, rfl, hnd, B2⟩; (obtain ⟨rfl, rfl⟩ := hnd rfl); rw [HTN.out.1, HTN.out.2]; (obtain ⟨W3, hW3⟩ : ∃ W3, w2.alloc (.cells #[.int .i64 tn, .int .i64 td] 81) = W3 := ⟨_, rfl⟩); (have B3 : Below WA.heap.size WA W3 := by rw [← hW3]; exact B2.trans ((alloc_b).mono B2.size)); (have CT : C2 W3 w2.heap.size (.int .i64 tn) (.int .i64 td) := by rw [← hW3]; exact C2.new w2 _ _ _); (have R3 := Hid.mk (HHA.out.next B3)); (have BW3 : Below W0.heap.size W0 W3 := BA0.trans (B3.mono BA0.size)); clear a0 a1 r0 r1 CA CRA HHA B2 hnd)
          have HBb := Hid.mk CT.hi
          have HBW2 : Hid (w.heap.size ≤ W3.heap.size) := Nat.le_trans BW.size BW3.size
          clear hW3 hWA B3 BA BA0 HBW c0 c1 HC HTN
          generalize w2.heap.size = b8 at CT HBb ⊢
          go_loopw [10] (fun pv wx => pv = .int .i64 0 ∧ Hid (posH ((k : Int), tn, td) [] 0 = 0) ∧ Below W3.heap.size W3 wx) (fun _ _ => 0)
          case atStart => exact ⟨rfl, rfl, Below.refl _ _⟩
          case round =>
            obtain ⟨rfl, HP, BX⟩ := hrel
            have HP : Hid (posH ((k : Int), tn, td) [] ([] : List TupH).length = 0) := HP
            have g0 : ¬ (0 : Int) < 0 := by omega
            go_wp2
            generalize hWW : wr.drew = WX
            have BX : Below W3.heap.size W3 WX := by rw [← hWW]; exact below_drew BX
            refine wp_region_held_drew (S := fun v => Below WX.heap.size WX v) (by kernel_rfl) (by rw [hWW]; exact Below.refl _ _) (fun hH => ?_)
            rw [hWW] at hH ⊢
            clear hWW
            refine wpAnyH_take (i := 0) (oi := { dst := some 29, op := Op.move (Operand.tmp 10), type := 3, pos := "l18_rays.go:116", after := #[], guard := none }) (v := .int .i64 0) rfl (by kernel_rfl) (by kernel_rfl) (by kernel_rfl) (fun _ _ _ h => h) (Or.inl ⟨by rfl, fun w0 hSw => by (go_simp)⟩) hH ?_
            simp only [Act.put, List.setIfInBounds_toArray, List.set_cons_zero, List.set_cons_succ]
            refine wpAnyH_take (i := 1) (oi := { dst := some 30, op := Op.binOp BinOp.gtr 3 (Operand.tmp 29) (Operand.const (Value.int IntKind.i64 0)) 3, type := 4, pos := "l18_rays.go:116", after := #[{ on := 0, ground := Ground.data }], guard := none }) (v := .bool false) rfl (by kernel_rfl) (by kernel_rfl) (by kernel_rfl) (fun _ _ _ h => h) (Or.inl ⟨by rfl, fun w0 hSw => by (go_simp)⟩) hH ?_
            simp only [Act.put, List.setIfInBounds_toArray, List.set_cons_zero, List.set_cons_succ]
            refine wpAnyH_take (i := 2) (oi := { dst := some 31, op := Op.move (Operand.tmp 30), type := 4, pos := "l18_rays.go:116", after := #[{ on := 1, ground := Ground.data }], guard := none }) (v := .bool false) rfl (by kernel_rfl) (by kernel_rfl) (by kernel_rfl) (fun _ _ _ h => h) (Or.inl ⟨by rfl, fun w0 hSw => by (go_simp)⟩) hH ?_
            simp only [Act.put, List.setIfInBounds_toArray, List.set_cons_zero, List.set_cons_succ]
            refine wpAnyH_take (i := 3) (oi := { dst := some 32, op := Op.load 81 (Operand.tmp 8), type := 81, pos := "l18_rays.go:116", after := #[{ on := 2, ground := Ground.guard }], guard := some (2, true) }) (v := undef) rfl (by kernel_rfl) (by kernel_rfl) (by kernel_rfl) (fun _ _ _ h => h) (Or.inr ⟨by rfl, rfl⟩) hH ?_
            simp only [Act.put, List.setIfInBounds_toArray, List.set_cons_zero, List.set_cons_succ]
            refine wpAnyH_take (i := 4) (oi := { dst := some 33, op := Op.move (Operand.tmp 5), type := 68, pos := "l18_rays.go:116", after := #[{ on := 2, ground := Ground.guard }], guard := some (2, true) }) (v := undef) rfl (by kernel_rfl) (by kernel_rfl) (by kernel_rfl) (fun _ _ _ h => h) (Or.inr ⟨by rfl, rfl⟩) hH ?_
            simp only [Act.put, List.setIfInBounds_toArray, List.set_cons_zero, List.set_cons_succ]
            refine wpAnyH_take (i := 5) (oi := { dst := some 34, op := Op.move (Operand.tmp 10), type := 3, pos := "l18_rays.go:116", after := #[{ on := 2, ground := Ground.guard }], guard := some (2, true) }) (v := undef) rfl (by kernel_rfl) (by kernel_rfl) (by kernel_rfl) (fun _ _ _ h => h) (Or.inr ⟨by rfl, rfl⟩) hH ?_
            simp only [Act.put, List.setIfInBounds_toArray, List.set_cons_zero, List.set_cons_succ]
            refine wpAnyH_take (i := 6) (oi := { dst := some 35, op := Op.binOp BinOp.sub 3 (Operand.tmp 34) (Operand.const (Value.int IntKind.i64 1)) 3, type := 3, pos := "l18_rays.go:116", after := #[{ on := 5, ground := Ground.data }, { on := 2, ground := Ground.guard }], guard := some (2, true) }) (v := undef) rfl (by kernel_rfl) (by kernel_rfl) (by kernel_rfl) (fun _ _ _ h => h) (Or.inr ⟨by rfl, rfl⟩) hH ?_
            simp only [Act.put, List.setIfInBounds_toArray, List.set_cons_zero, List.set_cons_succ]
            refine wpAnyH_take (i := 7) (oi := { dst := some 36, op := Op.indexAddr 68 (Operand.tmp 33) (Operand.tmp 35), type := 0, pos := "l18_rays.go:116", after := #[{ on := 4, ground := Ground.data }, { on := 6, ground := Ground.data }, { on := 2, ground := Ground.guard }], guard := some (2, true) }) (v := undef) rfl (by kernel_rfl) (by kernel_rfl) (by kernel_rfl) (fun _ _ _ h => h) (Or.inr ⟨by rfl, rfl⟩) hH ?_
            simp only [Act.put, List.setIfInBounds_toArray, List.set_cons_zero, List.set_cons_succ]
            refine wpAnyH_take (i := 8) (oi := { dst := some 37, op := Op.fieldAddr 45 (Operand.tmp 36) 1, type := 0, pos := "l18_rays.go:116", after := #[{ on := 7, ground := Ground.data }, { on := 2, ground := Ground.guard }], guard := some (2, true) }) (v := undef) rfl (by kernel_rfl) (by kernel_rfl) (by kernel_rfl) (fun _ _ _ h => h) (Or.inr ⟨by rfl, rfl⟩) hH ?_
            simp only [Act.put, List.setIfInBounds_toArray, List.set_cons_zero, List.set_cons_succ]
            refine wpAnyH_take (i := 9) (oi := { dst := some 38, op := Op.load 3 (Operand.tmp 37), type := 3, pos := "l18_rays.go:116", after := #[{ on := 8, ground := Ground.data }, { on := 2, ground := Ground.guard }], guard := some (2, true) }) (v := undef) rfl (by kernel_rfl) (by kernel_rfl) (by kernel_rfl) (fun _ _ _ h => h) (Or.inr ⟨by rfl, rfl⟩) hH ?_
            simp only [Act.put, List.setIfInBounds_toArray, List.set_cons_zero, List.set_cons_succ]
            refine wpAnyH_take (i := 10) (oi := { dst := some 39, op := Op.move (Operand.tmp 5), type := 68, pos := "l18_rays.go:116", after := #[{ on := 2, ground := Ground.guard }], guard := some (2, true) }) (v := undef) rfl (by kernel_rfl) (by kernel_rfl) (by kernel_rfl) (fun _ _ _ h => h) (Or.inr ⟨by rfl, rfl⟩) hH ?_
            simp only [Act.put, List.setIfInBounds_toArray, List.set_cons_zero, List.set_cons_succ]
            refine wpAnyH_take (i := 11) (oi := { dst := some 40, op := Op.move (Operand.tmp 10), type := 3, pos := "l18_rays.go:116", after := #[{ on := 2, ground := Ground.guard }], guard := some (2, true) }) (v := undef) rfl (by kernel_rfl) (by kernel_rfl) (by kernel_rfl) (fun _ _ _ h => h) (Or.inr ⟨by rfl, rfl⟩) hH ?_
            simp only [Act.put, List.setIfInBounds_toArray, List.set_cons_zero, List.set_cons_succ]
            refine wpAnyH_take (i := 12) (oi := { dst := some 41, op := Op.binOp BinOp.sub 3 (Operand.tmp 40) (Operand.const (Value.int IntKind.i64 1)) 3, type := 3, pos := "l18_rays.go:116", after := #[{ on := 11, ground := Ground.data }, { on := 2, ground := Ground.guard }], guard := some (2, true) }) (v := undef) rfl (by kernel_rfl) (by kernel_rfl) (by kernel_rfl) (fun _ _ _ h => h) (Or.inr ⟨by rfl, rfl⟩) hH ?_
            simp only [Act.put, List.setIfInBounds_toArray, List.set_cons_zero, List.set_cons_succ]
            refine wpAnyH_take (i := 13) (oi := { dst := some 42, op := Op.indexAddr 68 (Operand.tmp 39) (Operand.tmp 41), type := 0, pos := "l18_rays.go:116", after := #[{ on := 10, ground := Ground.data }, { on := 12, ground := Ground.data }, { on := 2, ground := Ground.guard }], guard := some (2, true) }) (v := undef) rfl (by kernel_rfl) (by kernel_rfl) (by kernel_rfl) (fun _ _ _ h => h) (Or.inr ⟨by rfl, rfl⟩) hH ?_
            simp only [Act.put, List.setIfInBounds_toArray, List.set_cons_zero, List.set_cons_succ]
            refine wpAnyH_take (i := 14) (oi := { dst := some 43, op := Op.fieldAddr 45 (Operand.tmp 42) 2, type := 0, pos := "l18_rays.go:116", after := #[{ on := 13, ground := Ground.data }, { on := 2, ground := Ground.guard }], guard := some (2, true) }) (v := undef) rfl (by kernel_rfl) (by kernel_rfl) (by kernel_rfl) (fun _ _ _ h => h) (Or.inr ⟨by rfl, rfl⟩) hH ?_
            simp only [Act.put, List.setIfInBounds_toArray, List.set_cons_zero, List.set_cons_succ]
            refine wpAnyH_take (i := 15) (oi := { dst := some 44, op := Op.load 3 (Operand.tmp 43), type := 3, pos := "l18_rays.go:116", after := #[{ on := 14, ground := Ground.data }, { on := 2, ground := Ground.guard }], guard := some (2, true) }) (v := undef) rfl (by kernel_rfl) (by kernel_rfl) (by kernel_rfl) (fun _ _ _ h => h) (Or.inr ⟨by rfl, rfl⟩) hH ?_
            simp only [Act.put, List.setIfInBounds_toArray, List.set_cons_zero, List.set_cons_succ]
            refine wpAnyH_take (i := 16) (oi := { dst := some 45, op := Op.build 81 #[(0, Operand.tmp 38), (1, Operand.tmp 44)], type := 81, pos := "l18_rays.go:116", after := #[{ on := 9, ground := Ground.data }, { on := 15, ground := Ground.data }, { on := 2, ground := Ground.guard }], guard := some (2, true) }) (v := undef) rfl (by kernel_rfl) (by kernel_rfl) (by kernel_rfl) (fun _ _ _ h => h) (Or.inr ⟨by rfl, rfl⟩) hH ?_
            simp only [Act.put, List.setIfInBounds_toArray, List.set_cons_zero, List.set_cons_succ]
            refine wpAnyH_take (i := 17) (oi := { dst := some 46, op := Op.call { callee := Callee.value (Operand.func 81), args := #[Operand.tmp 32, Operand.tmp 45], argTypes := #[81, 81] }, type := 4, pos := "l18_rays.go:116", after := #[{ on := 3, ground := Ground.data }, { on := 16, ground := Ground.data }, { on := 2, ground := Ground.chain }, { on := 2, ground := Ground.guard }], guard := some (2, true) }) (v := undef) rfl (by kernel_rfl) (by kernel_rfl) (by kernel_rfl) (fun _ _ _ h => h) (Or.inr ⟨by rfl, rfl⟩) hH ?_
            simp only [Act.put, List.setIfInBounds_toArray, List.set_cons_zero, List.set_cons_succ]
            refine wpAnyH_take (i := 18) (oi := { dst := some 47, op := Op.pick (Operand.tmp 31) (Operand.tmp 46) (Operand.const (Value.bool false)), type := 4, pos := "l18_rays.go:116", after := #[{ on := 2, ground := Ground.data }, { on := 17, ground := Ground.data }], guard := none }) (v := .bool false) rfl (by kernel_rfl) (by kernel_rfl) (by kernel_rfl) (fun _ _ _ h => h) (Or.inl ⟨by rfl, fun w0 hSw => by (go_simp)⟩) hH ?_
            simp only [Act.put, List.setIfInBounds_toArray, List.set_cons_zero, List.set_cons_succ]
            refine wpAnyH_done (by kernel_rfl) ?_ _
            have BX0 := BW3.trans (BX.mono BW3.size)
            have CTx := CT.next BX
            have RX := R3.out.next BX
            have HTB : Hid (w.heap.size ≤ WX.heap.size) := by have h1 := HBW2.out; have h2 := BX.size; show w.heap.size ≤ WX.heap.size; omega
            have HTB0 := BX0.size
            have HTL : Hid (([] ++ (([] : List TupH)).take (0) ++ [((k : Int), tn, td)]) ++ (([] : List TupH)).drop (0) = insH ((k : Int), tn, td) (([] : List TupH))) := by
              show _ = _
              unfold insH
              rw [HP.out]
              simp
            have HTK : Hid ((0) ≤ (([] : List TupH)).length ∧ (([] : List TupH)).length ≤ 24) := ⟨by first | exact Nat.zero_le _ | omega, hlen⟩
            have S1 := Hid.mk ((Or.inl rfl : Src WX none (List.take 0 ([] : List TupH))))
            clear R3 CT HP BX HMk
            go_wp2_with (first
              | (at_builtin; refine wpList_append_hits rfl _ _ rfl rfl (M := (([] : List TupH)).take (0)) (by have := HTK.out.1; simp; try omega) rfl (HR.nil WX.heap.size WX (Nat.le_refl _)) S1.out (by have := HTK.out; simp; try omega) ?_; (intro v1 u1 R1 G1); (have B1 : Below WX.heap.size WX u1 := grown_none G1); (have CT1 := CTx.next B1); (have RX1 := RX.next B1); (have d0 := CT1.c0); (have d1 := CT1.c1); clear G1 CTx RX S1)
              | (at_builtin; refine wpList_append_hits rfl _ _ rfl rfl (M := [((k : Int), tn, td)]) rfl rfl (R1.next alloc_b) (src_c3 (C3.new u1 45 _ _ _)) (by have := HTK.out; simp; try omega) ?_; (intro v2 u2 R2 G2); (have G2' : u1.grownBy u2 v1.ownBlock := grown_trans (grown_below alloc_b _) G2); (have RX2 := Hid.mk (trivial)); (have S2 := Hid.mk ((Or.inl rfl : Src u2 none (List.drop 0 ([] : List TupH))))); (have HV1 := Hid.mk (fun g hg => (R1.lt g hg).1)); (have HV2 := Hid.mk (fun g hg => (R2.lt g hg).1)); (have BB2 : Below W0.heap.size W0 u2 := below_grown (BX0.trans (B1.mono BX0.size)) (Nat.le_trans BX0.size B1.size) G2' (fun g hg => Nat.le_trans HTB0 (HV1.out g hg))); clear d0 d1 CT1 RX1 R1 G2 G2' B1)
              | (at_builtin; refine wpList_append_hits rfl _ _ rfl rfl (M := (([] : List TupH)).drop (0)) (by have := HTK.out.1; simp; try omega) rfl R2 S2.out (by have := HTK.out; simp; try omega) ?_; (intro v3 u3 R3 G3); (have BB3 : Below W0.heap.size W0 u3 := below_grown BB2 BB2.size G3 (fun g hg => Nat.le_trans HTB0 (HV2.out g hg))); (have R4 : Hid (HR w.heap.size u3 v3 (hitsM P A D (k + 1))) := by rw [HS3.out, ← HTL.out]; exact R3.low HTB.out)))
            go_roundw
            case rel => exact ⟨k + 1, by omega, by go_num, R4, BB3⟩
            case measure => simp [intOf]; omega
        · go_wp2_with (go_at_call 54; refine HC.out.mono ?_; rintro e w2 ⟨n1, d1, rfl, hnd, B2⟩; (obtain ⟨rfl, rfl⟩ := hnd rfl); rw [HTN.out.1, HTN.out.2]; (obtain ⟨W3, hW3⟩ : ∃ W3, w2.alloc (.cells #[.int .i64 tn, .int .i64 td] 81) = W3 := ⟨_, rfl⟩); (have B3 : Below WA.heap.size WA W3 := by rw [← hW3]; exact B2.trans ((alloc_b).mono B2.size)); (have CT : C2 W3 w2.heap.size (.int .i64 tn) (.int .i64 td) := by rw [← hW3]; exact C2.new w2 _ _ _); (have R3 := Hid.mk (HHA.out.next B3)); (have BW3 : Below W0.heap.size W0 W3 := BA0.trans (B3.mono BA0.size)); clear a0 a1 r0 r1 CA CRA HHA B2 hnd)
          have HBb := Hid.mk CT.hi
          have HBW2 : Hid (w.heap.size ≤ W3.heap.size) := Nat.le_trans BW.size BW3.size
          clear hW3 hWA B3 BA BA0 HBW c0 c1 HC HTN
          generalize w2.heap.size = b8 at CT HBb ⊢
          go_loopw [10] (fun pv wx => ∃ p : Nat, p ≤ M.length ∧ pv = .int .i64 p ∧ Hid (posH ((k : Int), tn, td) M M.length = posH ((k : Int), tn, td) M p) ∧ Below W3.heap.size W3 wx) (fun pv _ => (intOf pv).toNat)
          case atStart => exact ⟨M.length, Nat.le_refl _, rfl, rfl, Below.refl _ _⟩
          case round =>
            obtain ⟨p, hp, rfl, HP, BX⟩ := hrel
            have HOG : Hid (og < W3.heap.size) := (R3.out.lt og rfl).2
            cases p with
            | zero =>
              have HP : Hid (posH ((k : Int), tn, td) M M.length = 0) := HP.out
              have g0 : ¬ (0 : Int) < 0 := by omega
              go_wp2
              generalize hWW : wr.drew = WX
              have BX : Below W3.heap.size W3 WX := by rw [← hWW]; exact below_drew BX
              have HOG : Hid (og < WX.heap.size) := Nat.lt_of_lt_of_le HOG.out BX.size
              refine wp_region_held_drew (S := fun v => Below WX.heap.size WX v) (by kernel_rfl) (by rw [hWW]; exact Below.refl _ _) (fun hH => ?_)
              rw [hWW] at hH ⊢
              clear hWW
              refine wpAnyH_take (i := 0) (oi := { dst := some 29, op := Op.move (Operand.tmp 10), type := 3, pos := "l18_rays.go:116", after := #[], guard := none }) (v := .int .i64 0) rfl (by kernel_rfl) (by kernel_rfl) (by kernel_rfl) (fun _ _ _ h => h) (Or.inl ⟨by rfl, fun w0 hSw => by (go_simp)⟩) hH ?_
              simp only [Act.put, List.setIfInBounds_toArray, List.set_cons_zero, List.set_cons_succ]
              refine wpAnyH_take (i := 1) (oi := { dst := some 30, op := Op.binOp BinOp.gtr 3 (Operand.tmp 29) (Operand.const (Value.int IntKind.i64 0)) 3, type := 4, pos := "l18_rays.go:116", after := #[{ on := 0, ground := Ground.data }], guard := none }) (v := .bool false) rfl (by kernel_rfl) (by kernel_rfl) (by kernel_rfl) (fun _ _ _ h => h) (Or.inl ⟨by rfl, fun w0 hSw => by (go_simp)⟩) hH ?_
              simp only [Act.put, List.setIfInBounds_toArray, List.set_cons_zero, List.set_cons_succ]
              refine wpAnyH_take (i := 2) (oi := { dst := some 31, op := Op.move (Operand.tmp 30), type := 4, pos := "l18_rays.go:116", after := #[{ on := 1, ground := Ground.data }], guard := none }) (v := .bool false) rfl (by kernel_rfl) (by kernel_rfl) (by kernel_rfl) (fun _ _ _ h => h) (Or.inl ⟨by rfl, fun w0 hSw => by (go_simp)⟩) hH ?_
              simp only [Act.put, List.setIfInBounds_toArray, List.set_cons_zero, List.set_cons_succ]
              refine wpAnyH_take (i := 3) (oi := { dst := some 32, op := Op.load 81 (Operand.tmp 8), type := 81, pos := "l18_rays.go:116", after := #[{ on := 2, ground := Ground.guard }], guard := some (2, true) }) (v := undef) rfl (by kernel_rfl) (by kernel_rfl) (by kernel_rfl) (fun _ _ _ h => h) (Or.inr ⟨by rfl, rfl⟩) hH ?_
              simp only [Act.put, List.setIfInBounds_toArray, List.set_cons_zero, List.set_cons_succ]
              refine wpAnyH_take (i := 4) (oi := { dst := some 33, op := Op.move (Operand.tmp 5), type := 68, pos := "l18_rays.go:116", after := #[{ on := 2, ground := Ground.guard }], guard := some (2, true) }) (v := undef) rfl (by kernel_rfl) (by kernel_rfl) (by kernel_rfl) (fun _ _ _ h => h) (Or.inr ⟨by rfl, rfl⟩) hH ?_
              simp only [Act.put, List.setIfInBounds_toArray, List.set_cons_zero, List.set_cons_succ]
              refine wpAnyH_take (i := 5) (oi := { dst := some 34, op := Op.move (Operand.tmp 10), type := 3, pos := "l18_rays.go:116", after := #[{ on := 2, ground := Ground.guard }], guard := some (2, true) }) (v := undef) rfl (by kernel_rfl) (by kernel_rfl) (by kernel_rfl) (fun _ _ _ h => h) (Or.inr ⟨by rfl, rfl⟩) hH ?_
              simp only [Act.put, List.setIfInBounds_toArray, List.set_cons_zero, List.set_cons_succ]
              refine wpAnyH_take (i := 6) (oi := { dst := some 35, op := Op.binOp BinOp.sub 3 (Operand.tmp 34) (Operand.const (Value.int IntKind.i64 1)) 3, type := 3, pos := "l18_rays.go:116", after := #[{ on := 5, ground := Ground.data }, { on := 2, ground := Ground.guard }], guard := some (2, true) }) (v := undef) rfl (by kernel_rfl) (by kernel_rfl) (by kernel_rfl) (fun _ _ _ h => h) (Or.inr ⟨by rfl, rfl⟩) hH ?_
              simp only [Act.put, List.setIfInBounds_toArray, List.set_cons_zero, List.set_cons_succ]
              refine wpAnyH_take (i := 7) (oi := { dst := some 36, op := Op.indexAddr 68 (Operand.tmp 33) (Operand.tmp 35), type := 0, pos := "l18_rays.go:116", after := #[{ on := 4, ground := Ground.data }, { on := 6, ground := Ground.data }, { on := 2, ground := Ground.guard }], guard := some (2, true) }) (v := undef) rfl (by kernel_rfl) (by kernel_rfl) (by kernel_rfl) (fun _ _ _ h => h) (Or.inr ⟨by rfl, rfl⟩) hH ?_
              simp only [Act.put, List.setIfInBounds_toArray, List.set_cons_zero, List.set_cons_succ]
              refine wpAnyH_take (i := 8) (oi := { dst := some 37, op := Op.fieldAddr 45 (Operand.tmp 36) 1, type := 0, pos := "l18_rays.go:116", after := #[{ on := 7, ground := Ground.data }, { on := 2, ground := Ground.guard }], guard := some (2, true) }) (v := undef) rfl (by kernel_rfl) (by kernel_rfl) (by kernel_rfl) (fun _ _ _ h => h) (Or.inr ⟨by rfl, rfl⟩) hH ?_
              simp only [Act.put, List.setIfInBounds_toArray, List.set_cons_zero, List.set_cons_succ]
              refine wpAnyH_take (i := 9) (oi := { dst := some 38, op := Op.load 3 (Operand.tmp 37), type := 3, pos := "l18_rays.go:116", after := #[{ on := 8, ground := Ground.data }, { on := 2, ground := Ground.guard }], guard := some (2, true) }) (v := undef) rfl (by kernel_rfl) (by kernel_rfl) (by kernel_rfl) (fun _ _ _ h => h) (Or.inr ⟨by rfl, rfl⟩) hH ?_
              simp only [Act.put, List.setIfInBounds_toArray, List.set_cons_zero, List.set_cons_succ]
              refine wpAnyH_take (i := 10) (oi := { dst := some 39, op := Op.move (Operand.tmp 5), type := 68, pos := "l18_rays.go:116", after := #[{ on := 2, ground := Ground.guard }], guard := some (2, true) }) (v := undef) rfl (by kernel_rfl) (by kernel_rfl) (by kernel_rfl) (fun _ _ _ h => h) (Or.inr ⟨by rfl, rfl⟩) hH ?_
              simp only [Act.put, List.setIfInBounds_toArray, List.set_cons_zero, List.set_cons_succ]
              refine wpAnyH_take (i := 11) (oi := { dst := some 40, op := Op.move (Operand.tmp 10), type := 3, pos := "l18_rays.go:116", after := #[{ on := 2, ground := Ground.guard }], guard := some (2, true) }) (v := undef) rfl (by kernel_rfl) (by kernel_rfl) (by kernel_rfl) (fun _ _ _ h => h) (Or.inr ⟨by rfl, rfl⟩) hH ?_
              simp only [Act.put, List.setIfInBounds_toArray, List.set_cons_zero, List.set_cons_succ]
              refine wpAnyH_take (i := 12) (oi := { dst := some 41, op := Op.binOp BinOp.sub 3 (Operand.tmp 40) (Operand.const (Value.int IntKind.i64 1)) 3, type := 3, pos := "l18_rays.go:116", after := #[{ on := 11, ground := Ground.data }, { on := 2, ground := Ground.guard }], guard := some (2, true) }) (v := undef) rfl (by kernel_rfl) (by kernel_rfl) (by kernel_rfl) (fun _ _ _ h => h) (Or.inr ⟨by rfl, rfl⟩) hH ?_
              simp only [Act.put, List.setIfInBounds_toArray, List.set_cons_zero, List.set_cons_succ]
              refine wpAnyH_take (i := 13) (oi := { dst := some 42, op := Op.indexAddr 68 (Operand.tmp 39) (Operand.tmp 41), type := 0, pos := "l18_rays.go:116", after := #[{ on := 10, ground := Ground.data }, { on := 12, ground := Ground.data }, { on := 2, ground := Ground.guard }], guard := some (2, true) }) (v := undef) rfl (by kernel_rfl) (by kernel_rfl) (by kernel_rfl) (fun _ _ _ h => h) (Or.inr ⟨by rfl, rfl⟩) hH ?_
              simp only [Act.put, List.setIfInBounds_toArray, List.set_cons_zero, List.set_cons_succ]
              refine wpAnyH_take (i := 14) (oi := { dst := some 43, op := Op.fieldAddr 45 (Operand.tmp 42) 2, type := 0, pos := "l18_rays.go:116", after := #[{ on := 13, ground := Ground.data }, { on := 2, ground := Ground.guard }], guard := some (2, true) }) (v := undef) rfl (by kernel_rfl) (by kernel_rfl) (by kernel_rfl) (fun _ _ _ h => h) (Or.inr ⟨by rfl, rfl⟩) hH ?_
              simp only [Act.put, List.setIfInBounds_toArray, List.set_cons_zero, List.set_cons_succ]
              refine wpAnyH_take (i := 15) (oi := { dst := some 44, op := Op.load 3 (Operand.tmp 43), type := 3, pos := "l18_rays.go:116", after := #[{ on := 14, ground := Ground.data }, { on := 2, ground := Ground.guard }], guard := some (2, true) }) (v := undef) rfl (by kernel_rfl) (by kernel_rfl) (by kernel_rfl) (fun _ _ _ h => h) (Or.inr ⟨by rfl, rfl⟩) hH ?_
              simp only [Act.put, List.setIfInBounds_toArray, List.set_cons_zero, List.set_cons_succ]
              refine wpAnyH_take (i := 16) (oi := { dst := some 45, op := Op.build 81 #[(0, Operand.tmp 38), (1, Operand.tmp 44)], type := 81, pos := "l18_rays.go:116", after := #[{ on := 9, ground := Ground.data }, { on := 15, ground := Ground.data }, { on := 2, ground := Ground.guard }], guard := some (2, true) }) (v := undef) rfl (by kernel_rfl) (by kernel_rfl) (by kernel_rfl) (fun _ _ _ h => h) (Or.inr ⟨by rfl, rfl⟩) hH ?_
              simp only [Act.put, List.setIfInBounds_toArray, List.set_cons_zero, List.set_cons_succ]
              refine wpAnyH_take (i := 17) (oi := { dst := some 46, op := Op.call { callee := Callee.value (Operand.func 81), args := #[Operand.tmp 32, Operand.tmp 45], argTypes := #[81, 81] }, type := 4, pos := "l18_rays.go:116", after := #[{ on := 3, ground := Ground.data }, { on := 16, ground := Ground.data }, { on := 2, ground := Ground.chain }, { on := 2, ground := Ground.guard }], guard := some (2, true) }) (v := undef) rfl (by kernel_rfl) (by kernel_rfl) (by kernel_rfl) (fun _ _ _ h => h) (Or.inr ⟨by rfl, rfl⟩) hH ?_
              simp only [Act.put, List.setIfInBounds_toArray, List.set_cons_zero, List.set_cons_succ]
              refine wpAnyH_take (i := 18) (oi := { dst := some 47, op := Op.pick (Operand.tmp 31) (Operand.tmp 46) (Operand.const (Value.bool false)), type := 4, pos := "l18_rays.go:116", after := #[{ on := 2, ground := Ground.data }, { on := 17, ground := Ground.data }], guard := none }) (v := .bool false) rfl (by kernel_rfl) (by kernel_rfl) (by kernel_rfl) (fun _ _ _ h => h) (Or.inl ⟨by rfl, fun w0 hSw => by (go_simp)⟩) hH ?_
              simp only [Act.put, List.setIfInBounds_toArray, List.set_cons_zero, List.set_cons_succ]
              refine wpAnyH_done (by kernel_rfl) ?_ _
              have BX0 := BW3.trans (BX.mono BW3.size)
              have CTx := CT.next BX
              have RX := R3.out.next BX
              have HTB : Hid (w.heap.size ≤ WX.heap.size) := by have h1 := HBW2.out; have h2 := BX.size; show w.heap.size ≤ WX.heap.size; omega
              have HTB0 := BX0.size
              have HTL : Hid (([] ++ (M).take (0) ++ [((k : Int), tn, td)]) ++ (M).drop (0) = insH ((k : Int), tn, td) (M)) := by
                show _ = _
                unfold insH
                rw [HP.out]
                simp
              have HTK : Hid ((0) ≤ (M).length ∧ (M).length ≤ 24) := ⟨by first | exact Nat.zero_le _ | omega, hlen⟩
              have S1 := Hid.mk (src_take RX 0)
              clear R3 CT HP BX HMk
              go_wp2_with (first
                | (at_builtin; refine wpList_append_hits rfl _ _ rfl rfl (M := (M).take (0)) (by have := HTK.out.1; simp; try omega) rfl (HR.nil WX.heap.size WX (Nat.le_refl _)) S1.out (by have := HTK.out; simp; try omega) ?_; (intro v1 u1 R1 G1); (have B1 : Below WX.heap.size WX u1 := grown_none G1); (have CT1 := CTx.next B1); (have RX1 := RX.next B1); (have d0 := CT1.c0); (have d1 := CT1.c1); clear G1 CTx RX S1)
                | (at_builtin; refine wpList_append_hits rfl _ _ rfl rfl (M := [((k : Int), tn, td)]) rfl rfl (R1.next alloc_b) (src_c3 (C3.new u1 45 _ _ _)) (by have := HTK.out; simp; try omega) ?_; (intro v2 u2 R2 G2); (have G2' : u1.grownBy u2 v1.ownBlock := grown_trans (grown_below alloc_b _) G2); (have RX2 := Hid.mk (RX1.kept G2' (Or.inr (fun e => by have h1 := (R1.lt og e.symm).1; have h2 := HOG.out; omega)))); (have S2 := Hid.mk (src_drop RX2.out 0)); (have HV1 := Hid.mk (fun g hg => (R1.lt g hg).1)); (have HV2 := Hid.mk (fun g hg => (R2.lt g hg).1)); (have BB2 : Below W0.heap.size W0 u2 := below_grown (BX0.trans (B1.mono BX0.size)) (Nat.le_trans BX0.size B1.size) G2' (fun g hg => Nat.le_trans HTB0 (HV1.out g hg))); clear d0 d1 CT1 RX1 R1 G2 G2' B1)
                | (at_builtin; refine wpList_append_hits rfl _ _ rfl rfl (M := (M).drop (0)) (by have := HTK.out.1; simp; try omega) rfl R2 S2.out (by have := HTK.out; simp; try omega) ?_; (intro v3 u3 R3 G3); (have BB3 : Below W0.heap.size W0 u3 := below_grown BB2 BB2.size G3 (fun g hg => Nat.le_trans HTB0 (HV2.out g hg))); (have R4 : Hid (HR w.heap.size u3 v3 (hitsM P A D (k + 1))) := by rw [HS3.out, ← HTL.out]; exact R3.low HTB.out)))
              go_roundw
              case rel => exact ⟨k + 1, by omega, by go_num, R4, BB3⟩
              case measure => simp [intOf]; omega
            | succ q =>
              have hqi : ((q + 1 : Nat) : Int) = (q : Int) + 1 := by omega
              rw [hqi]
              clear hqi
              have hq0 : (0 : Int) ≤ (q : Int) := by omega
              have hq1 : (q : Int) < (M.length : Int) := by omega
              have hq24 : (q : Int) < 24 := by omega
              have gq : (0 : Int) < (q : Int) + 1 := by omega
              have wq : IntKind.i64.wrap (q : Int) = (q : Int) := by simp [IntKind.wrap, IntKind.bits, IntKind.signed]; omega
              have HLS : Hid (∀ v : World, Calls Try.prog 81 #[.agg #[.int .i64 tn, .int .i64 td], .agg #[.int .i64 (atH1 M q), .int .i64 (atH2 M q)]] v fun r w' => r = .returned (.bool (lsB ((k : Int), tn, td) (M.getD q (0, 0, 0)))) ∧ Below v.heap.size v w') := fun v => mless tn td _ _ v HD2.out (HMk.out q (by omega))
              have HPQ : Hid (∀ b, lsB ((k : Int), tn, td) (M.getD q (0, 0, 0)) = b → posH ((k : Int), tn, td) M M.length = if b = true then posH ((k : Int), tn, td) M q else q + 1) := fun b h => by rw [HP.out, posH, h]
              clear HP
              go_wp2
              generalize hWW : wr.drew = WX
              have BX : Below W3.heap.size W3 WX := by rw [← hWW]; exact below_drew BX
              have HOG : Hid (og < WX.heap.size) := Nat.lt_of_lt_of_le HOG.out BX.size
              have CTx := CT.next BX
              have x0 := CTx.c0
              have x1 := CTx.c1
              obtain ⟨-, x2, x3⟩ := (R3.out.next BX).at (q := q) (by omega)
              clear CTx
              generalize atH1 M q = mn at HLS x2
              generalize atH2 M q = md at HLS x3
              cases hv : lsB ((k : Int), tn, td) (M.getD q (0, 0, 0))
              · rw [hv] at HLS
                have HP : Hid (posH ((k : Int), tn, td) M M.length = q + 1) := HPQ.out _ hv
                clear hv HPQ
                refine wp_region_held_drew (S := fun v => Below WX.heap.size WX v) (by kernel_rfl) (by rw [hWW]; exact Below.refl _ _) (fun hH => ?_)
                rw [hWW] at hH ⊢
                clear hWW
                refine wpAnyH_take (i := 0) (oi := { dst := some 29, op := Op.move (Operand.tmp 10), type := 3, pos := "l18_rays.go:116", after := #[], guard := none }) (v := .int .i64 ((q : Int) + 1)) rfl (by kernel_rfl) (by kernel_rfl) (by kernel_rfl) (fun _ _ _ h => h) (Or.inl ⟨by rfl, fun w0 hSw => by (go_simp)⟩) hH ?_
                simp only [Act.put, List.setIfInBounds_toArray, List.set_cons_zero, List.set_cons_succ]
                refine wpAnyH_take (i := 1) (oi := { dst := some 30, op := Op.binOp BinOp.gtr 3 (Operand.tmp 29) (Operand.const (Value.int IntKind.i64 0)) 3, type := 4, pos := "l18_rays.go:116", after := #[{ on := 0, ground := Ground.data }], guard := none }) (v := .bool true) rfl (by kernel_rfl) (by kernel_rfl) (by kernel_rfl) (fun _ _ _ h => h) (Or.inl ⟨by rfl, fun w0 hSw => by (go_simp)⟩) hH ?_
                simp only [Act.put, List.setIfInBounds_toArray, List.set_cons_zero, List.set_cons_succ]
                refine wpAnyH_take (i := 2) (oi := { dst := some 31, op := Op.move (Operand.tmp 30), type := 4, pos := "l18_rays.go:116", after := #[{ on := 1, ground := Ground.data }], guard := none }) (v := .bool true) rfl (by kernel_rfl) (by kernel_rfl) (by kernel_rfl) (fun _ _ _ h => h) (Or.inl ⟨by rfl, fun w0 hSw => by (go_simp)⟩) hH ?_
                simp only [Act.put, List.setIfInBounds_toArray, List.set_cons_zero, List.set_cons_succ]
                refine wpAnyH_take (i := 3) (oi := { dst := some 32, op := Op.load 81 (Operand.tmp 8), type := 81, pos := "l18_rays.go:116", after := #[{ on := 2, ground := Ground.guard }], guard := some (2, true) }) (v := .agg #[.int .i64 tn, .int .i64 td]) rfl (by kernel_rfl) (by kernel_rfl) (by kernel_rfl) (fun _ _ _ h => h) (Or.inl ⟨by rfl, fun w0 hSw => by ((have e0 := cell_nx x0 hSw); (have e1 := cell_nx x1 hSw); go_simp)⟩) hH ?_
                simp only [Act.put, List.setIfInBounds_toArray, List.set_cons_zero, List.set_cons_succ]
                refine wpAnyH_take (i := 4) (oi := { dst := some 33, op := Op.move (Operand.tmp 5), type := 68, pos := "l18_rays.go:116", after := #[{ on := 2, ground := Ground.guard }], guard := some (2, true) }) (v := .slice (some ⟨og, 0, none⟩) M.length oc) rfl (by kernel_rfl) (by kernel_rfl) (by kernel_rfl) (fun _ _ _ h => h) (Or.inl ⟨by rfl, fun w0 hSw => by (go_simp)⟩) hH ?_
                simp only [Act.put, List.setIfInBounds_toArray, List.set_cons_zero, List.set_cons_succ]
                refine wpAnyH_take (i := 5) (oi := { dst := some 34, op := Op.move (Operand.tmp 10), type := 3, pos := "l18_rays.go:116", after := #[{ on := 2, ground := Ground.guard }], guard := some (2, true) }) (v := .int .i64 ((q : Int) + 1)) rfl (by kernel_rfl) (by kernel_rfl) (by kernel_rfl) (fun _ _ _ h => h) (Or.inl ⟨by rfl, fun w0 hSw => by (go_simp)⟩) hH ?_
                simp only [Act.put, List.setIfInBounds_toArray, List.set_cons_zero, List.set_cons_succ]
                refine wpAnyH_take (i := 6) (oi := { dst := some 35, op := Op.binOp BinOp.sub 3 (Operand.tmp 34) (Operand.const (Value.int IntKind.i64 1)) 3, type := 3, pos := "l18_rays.go:116", after := #[{ on := 5, ground := Ground.data }, { on := 2, ground := Ground.guard }], guard := some (2, true) }) (v := .int .i64 (q : Int)) rfl (by kernel_rfl) (by kernel_rfl) (by kernel_rfl) (fun _ _ _ h => h) (Or.inl ⟨by rfl, fun w0 hSw => by (go_simp)⟩) hH ?_
                simp only [Act.put, List.setIfInBounds_toArray, List.set_cons_zero, List.set_cons_succ]
                refine wpAnyH_take (i := 7) (oi := { dst := some 36, op := Op.indexAddr 68 (Operand.tmp 33) (Operand.tmp 35), type := 0, pos := "l18_rays.go:116", after := #[{ on := 4, ground := Ground.data }, { on := 6, ground := Ground.data }, { on := 2, ground := Ground.guard }], guard := some (2, true) }) (v := .pointer (some ⟨og, q * 3, none⟩)) rfl (by kernel_rfl) (by kernel_rfl) (by kernel_rfl) (fun _ _ _ h => h) (Or.inl ⟨by rfl, fun w0 hSw => by (go_simp)⟩) hH ?_
                simp only [Act.put, List.setIfInBounds_toArray, List.set_cons_zero, List.set_cons_succ]
                refine wpAnyH_take (i := 8) (oi := { dst := some 37, op := Op.fieldAddr 45 (Operand.tmp 36) 1, type := 0, pos := "l18_rays.go:116", after := #[{ on := 7, ground := Ground.data }, { on := 2, ground := Ground.guard }], guard := some (2, true) }) (v := .pointer (some ⟨og, q * 3 + 1, none⟩)) rfl (by kernel_rfl) (by kernel_rfl) (by kernel_rfl) (fun _ _ _ h => h) (Or.inl ⟨by rfl, fun w0 hSw => by (go_simp)⟩) hH ?_
                simp only [Act.put, List.setIfInBounds_toArray, List.set_cons_zero, List.set_cons_succ]
                refine wpAnyH_take (i := 9) (oi := { dst := some 38, op := Op.load 3 (Operand.tmp 37), type := 3, pos := "l18_rays.go:116", after := #[{ on := 8, ground := Ground.data }, { on := 2, ground := Ground.guard }], guard := some (2, true) }) (v := .int .i64 mn) rfl (by kernel_rfl) (by kernel_rfl) (by kernel_rfl) (fun _ _ _ h => h) (Or.inl ⟨by rfl, fun w0 hSw => by ((have e0 := cell_nx x2 hSw); go_simp)⟩) hH ?_
                simp only [Act.put, List.setIfInBounds_toArray, List.set_cons_zero, List.set_cons_succ]
                refine wpAnyH_take (i := 10) (oi := { dst := some 39, op := Op.move (Operand.tmp 5), type := 68, pos := "l18_rays.go:116", after := #[{ on := 2, ground := Ground.guard }], guard := some (2, true) }) (v := .slice (some ⟨og, 0, none⟩) M.length oc) rfl (by kernel_rfl) (by kernel_rfl) (by kernel_rfl) (fun _ _ _ h => h) (Or.inl ⟨by rfl, fun w0 hSw => by (go_simp)⟩) hH ?_
                simp only [Act.put, List.setIfInBounds_toArray, List.set_cons_zero, List.set_cons_succ]
                refine wpAnyH_take (i := 11) (oi := { dst := some 40, op := Op.move (Operand.tmp 10), type := 3, pos := "l18_rays.go:116", after := #[{ on := 2, ground := Ground.guard }], guard := some (2, true) }) (v := .int .i64 ((q : Int) + 1)) rfl (by kernel_rfl) (by kernel_rfl) (by kernel_rfl) (fun _ _ _ h => h) (Or.inl ⟨by rfl, fun w0 hSw => by (go_simp)⟩) hH ?_
                simp only [Act.put, List.setIfInBounds_toArray, List.set_cons_zero, List.set_cons_succ]
                refine wpAnyH_take (i := 12) (oi := { dst := some 41, op := Op.binOp BinOp.sub 3 (Operand.tmp 40) (Operand.const (Value.int IntKind.i64 1)) 3, type := 3, pos := "l18_rays.go:116", after := #[{ on := 11, ground := Ground.data }, { on := 2, ground := Ground.guard }], guard := some (2, true) }) (v := .int .i64 (q : Int)) rfl (by kernel_rfl) (by kernel_rfl) (by kernel_rfl) (fun _ _ _ h => h) (Or.inl ⟨by rfl, fun w0 hSw => by (go_simp)⟩) hH ?_
                simp only [Act.put, List.setIfInBounds_toArray, List.set_cons_zero, List.set_cons_succ]
                refine wpAnyH_take (i := 13) (oi := { dst := some 42, op := Op.indexAddr 68 (Operand.tmp 39) (Operand.tmp 41), type := 0, pos := "l18_rays.go:116", after := #[{ on := 10, ground := Ground.data }, { on := 12, ground := Ground.data }, { on := 2, ground := Ground.guard }], guard := some (2, true) }) (v := .pointer (some ⟨og, q * 3, none⟩)) rfl (by kernel_rfl) (by kernel_rfl) (by kernel_rfl) (fun _ _ _ h => h) (Or.inl ⟨by rfl, fun w0 hSw => by (go_simp)⟩) hH ?_
                simp only [Act.put, List.setIfInBounds_toArray, List.set_cons_zero, List.set_cons_succ]
                refine wpAnyH_take (i := 14) (oi := { dst := some 43, op := Op.fieldAddr 45 (Operand.tmp 42) 2, type := 0, pos := "l18_rays.go:116", after := #[{ on := 13, ground := Ground.data }, { on := 2, ground := Ground.guard }], guard := some (2, true) }) (v := .pointer (some ⟨og, q * 3 + 2, none⟩)) rfl (by kernel_rfl) (by kernel_rfl) (by kernel_rfl) (fun _ _ _ h => h) (Or.inl ⟨by rfl, fun w0 hSw => by (go_simp)⟩) hH ?_
                simp only [Act.put, List.setIfInBounds_toArray, List.set_cons_zero, List.set_cons_succ]
                refine wpAnyH_take (i := 15) (oi := { dst := some 44, op := Op.load 3 (Operand.tmp 43), type := 3, pos := "l18_rays.go:116", after := #[{ on := 14, ground := Ground.data }, { on := 2, ground := Ground.guard }], guard := some (2, true) }) (v := .int .i64 md) rfl (by kernel_rfl) (by kernel_rfl) (by kernel_rfl) (fun _ _ _ h => h) (Or.inl ⟨by rfl, fun w0 hSw => by ((have e0 := cell_nx x3 hSw); go_simp)⟩) hH ?_
                simp only [Act.put, List.setIfInBounds_toArray, List.set_cons_zero, List.set_cons_succ]
                refine wpAnyH_take (i := 16) (oi := { dst := some 45, op := Op.build 81 #[(0, Operand.tmp 38), (1, Operand.tmp 44)], type := 81, pos := "l18_rays.go:116", after := #[{ on := 9, ground := Ground.data }, { on := 15, ground := Ground.data }, { on := 2, ground := Ground.guard }], guard := some (2, true) }) (v := .agg #[.int .i64 mn, .int .i64 md]) rfl (by kernel_rfl) (by kernel_rfl) (by kernel_rfl) (fun _ _ _ h => h) (Or.inl ⟨by rfl, fun w0 hSw => by (go_simp)⟩) hH ?_
                simp only [Act.put, List.setIfInBounds_toArray, List.set_cons_zero, List.set_cons_succ]
                refine wpAnyH_ready (rs := [17]) (by kernel_rfl) (by simp) ?_
                refine (AllReadyH.cons (o := { dst := some 46, op := Op.call { callee := Callee.value (Operand.func 81), args := #[Operand.tmp 32, Operand.tmp 45], argTypes := #[81, 81] }, type := 4, pos := "l18_rays.go:116", after := #[{ on := 3, ground := Ground.data }, { on := 16, ground := Ground.data }, { on := 2, ground := Ground.chain }, { on := 2, ground := Ground.guard }], guard := some (2, true) }) rfl (fun K hK => ?_) AllReadyH.nil)
                refine step_callW 81 #[.agg #[.int .i64 tn, .int .i64 td], .agg #[.int .i64 mn, .int .i64 md]] (fun z v w9 => z = .bool false ∧ Below v.heap.size v w9) (by rfl) (by go_simp) ((HLS.out _).mono fun e w9 ⟨h1, h2⟩ => ⟨_, h1, rfl, h2⟩) ?_
                rintro z9 w9 ⟨rfl, B9⟩
                simp only [Act.put, List.setIfInBounds_toArray, List.set_cons_zero, List.set_cons_succ]
                refine hK.out _ _ (hH.trans (B9.mono hH.size)) (fun hH' => ?_)
                clear hK K
                replace hH := hH'
                clear hH' B9
                refine wpAnyH_take (i := 18) (oi := { dst := some 47, op := Op.pick (Operand.tmp 31) (Operand.tmp 46) (Operand.const (Value.bool false)), type := 4, pos := "l18_rays.go:116", after := #[{ on := 2, ground := Ground.data }, { on := 17, ground := Ground.data }], guard := none }) (v := .bool false) rfl (by kernel_rfl) (by kernel_rfl) (by kernel_rfl) (fun _ _ _ h => h) (Or.inl ⟨by rfl, fun w0 hSw => by (go_simp)⟩) hH ?_
                simp only [Act.put, List.setIfInBounds_toArray, List.set_cons_zero, List.set_cons_succ]
                refine wpAnyH_done (by kernel_rfl) ?_ _
                have BX := BX.trans (hH.mono BX.size)
                have HOG : Hid (og < w9.heap.size) := Nat.lt_of_lt_of_le HOG.out hH.size
                clear hH x0 x1 x2 x3 HLS
                by_cases hcap : oc = q + 1
                · subst hcap
                  have BX0 := BW3.trans (BX.mono BW3.size)
                  have CTx := CT.next BX
                  have RX := R3.out.next BX
                  have HTB : Hid (w.heap.size ≤ w9.heap.size) := by have h1 := HBW2.out; have h2 := BX.size; show w.heap.size ≤ w9.heap.size; omega
                  have HTB0 := BX0.size
                  have HTL : Hid (([] ++ (M).take (q + 1) ++ [((k : Int), tn, td)]) ++ (M).drop (q + 1) = insH ((k : Int), tn, td) (M)) := by
                    show _ = _
                    unfold insH
                    rw [HP.out]
                    simp
                  have HTK : Hid ((q + 1) ≤ (M).length ∧ (M).length ≤ 24) := ⟨by first | exact Nat.zero_le _ | omega, hlen⟩
                  have S1 := Hid.mk (src_take RX (q + 1))
                  clear R3 CT HP BX HMk
                  go_wp2_with (first
                    | (at_builtin; refine wpList_append_hits rfl _ _ rfl rfl (M := (M).take (q + 1)) (by have := HTK.out.1; simp; try omega) rfl (HR.nil w9.heap.size w9 (Nat.le_refl _)) S1.out (by have := HTK.out; simp; try omega) ?_; (intro v1 u1 R1 G1); (have B1 : Below w9.heap.size w9 u1 := grown_none G1); (have CT1 := CTx.next B1); (have RX1 := RX.next B1); (have d0 := CT1.c0); (have d1 := CT1.c1); clear G1 CTx RX S1)
                    | (at_builtin; refine wpList_append_hits rfl _ _ rfl rfl (M := [((k : Int), tn, td)]) rfl rfl (R1.next alloc_b) (src_c3 (C3.new u1 45 _ _ _)) (by have := HTK.out; simp; try omega) ?_; (intro v2 u2 R2 G2); (have G2' : u1.grownBy u2 v1.ownBlock := grown_trans (grown_below alloc_b _) G2); (have RX2 := Hid.mk (RX1.kept G2' (Or.inr (fun e => by have h1 := (R1.lt og e.symm).1; have h2 := HOG.out; omega)))); (have S2 := Hid.mk ((Or.inl (List.drop_eq_nil_of_le hoc1) : Src u2 (some ⟨og, 0, none⟩) (M.drop (q + 1))))); (have HV1 := Hid.mk (fun g hg => (R1.lt g hg).1)); (have HV2 := Hid.mk (fun g hg => (R2.lt g hg).1)); (have BB2 : Below W0.heap.size W0 u2 := below_grown (BX0.trans (B1.mono BX0.size)) (Nat.le_trans BX0.size B1.size) G2' (fun g hg => Nat.le_trans HTB0 (HV1.out g hg))); clear d0 d1 CT1 RX1 R1 G2 G2' B1)
                    | (at_builtin; refine wpList_append_hits rfl _ _ rfl rfl (M := (M).drop (q + 1)) (by have := HTK.out.1; simp; try omega) rfl R2 S2.out (by have := HTK.out; simp; try omega) ?_; (intro v3 u3 R3 G3); (have BB3 : Below W0.heap.size W0 u3 := below_grown BB2 BB2.size G3 (fun g hg => Nat.le_trans HTB0 (HV2.out g hg))); (have R4 : Hid (HR w.heap.size u3 v3 (hitsM P A D (k + 1))) := by rw [HS3.out, ← HTL.out]; exact R3.low HTB.out)))
                  go_roundw
                  case rel => exact ⟨k + 1, by omega, by go_num, R4, BB3⟩
                  case measure => simp [intOf]; omega
                · have hcap2 : ¬ q + 1 = oc := fun e => hcap e.symm
                  have BX0 := BW3.trans (BX.mono BW3.size)
                  have CTx := CT.next BX
                  have RX := R3.out.next BX
                  have HTB : Hid (w.heap.size ≤ w9.heap.size) := by have h1 := HBW2.out; have h2 := BX.size; show w.heap.size ≤ w9.heap.size; omega
                  have HTB0 := BX0.size
                  have HTL : Hid (([] ++ (M).take (q + 1) ++ [((k : Int), tn, td)]) ++ (M).drop (q + 1) = insH ((k : Int), tn, td) (M)) := by
                    show _ = _
                    unfold insH
                    rw [HP.out]
                    simp
                  have HTK : Hid ((q + 1) ≤ (M).length ∧ (M).length ≤ 24) := ⟨by first | exact Nat.zero_le _ | omega, hlen⟩
                  have S1 := Hid.mk (src_take RX (q + 1))
                  clear R3 CT HP BX HMk
                  go_wp2_with (first
                    | (at_builtin; refine wpList_append_hits rfl _ _ rfl rfl (M := (M).take (q + 1)) (by have := HTK.out.1; simp; try omega) rfl (HR.nil w9.heap.size w9 (Nat.le_refl _)) S1.out (by have := HTK.out; simp; try omega) ?_; (intro v1 u1 R1 G1); (have B1 : Below w9.heap.size w9 u1 := grown_none G1); (have CT1 := CTx.next B1); (have RX1 := RX.next B1); (have d0 := CT1.c0); (have d1 := CT1.c1); clear G1 CTx RX S1)
                    | (at_builtin; refine wpList_append_hits rfl _ _ rfl rfl (M := [((k : Int), tn, td)]) rfl rfl (R1.next alloc_b) (src_c3 (C3.new u1 45 _ _ _)) (by have := HTK.out; simp; try omega) ?_; (intro v2 u2 R2 G2); (have G2' : u1.grownBy u2 v1.ownBlock := grown_trans (grown_below alloc_b _) G2); (have RX2 := Hid.mk (RX1.kept G2' (Or.inr (fun e => by have h1 := (R1.lt og e.symm).1; have h2 := HOG.out; omega)))); (have S2 := Hid.mk (src_drop RX2.out (q + 1))); (have HV1 := Hid.mk (fun g hg => (R1.lt g hg).1)); (have HV2 := Hid.mk (fun g hg => (R2.lt g hg).1)); (have BB2 : Below W0.heap.size W0 u2 := below_grown (BX0.trans (B1.mono BX0.size)) (Nat.le_trans BX0.size B1.size) G2' (fun g hg => Nat.le_trans HTB0 (HV1.out g hg))); clear d0 d1 CT1 RX1 R1 G2 G2' B1)
                    | (at_builtin; refine wpList_append_hits rfl _ _ rfl rfl (M := (M).drop (q + 1)) (by have := HTK.out.1; simp; try omega) rfl R2 S2.out (by have := HTK.out; simp; try omega) ?_; (intro v3 u3 R3 G3); (have BB3 : Below W0.heap.size W0 u3 := below_grown BB2 BB2.size G3 (fun g hg => Nat.le_trans HTB0 (HV2.out g hg))); (have R4 : Hid (HR w.heap.size u3 v3 (hitsM P A D (k + 1))) := by rw [HS3.out, ← HTL.out]; exact R3.low HTB.out)))
                  go_roundw
                  case rel => exact ⟨k + 1, by omega, by go_num, R4, BB3⟩
                  case measure => simp [intOf]; omega
              · rw [hv] at HLS
                have HP : Hid (posH ((k : Int), tn, td) M M.length = posH ((k : Int), tn, td) M q) := HPQ.out _ hv
                clear hv HPQ
                refine wp_region_held_drew (S := fun v => Below WX.heap.size WX v) (by kernel_rfl) (by rw [hWW]; exact Below.refl _ _) (fun hH => ?_)
                rw [hWW] at hH ⊢
                clear hWW
                refine wpAnyH_take (i := 0) (oi := { dst := some 29, op := Op.move (Operand.tmp 10), type := 3, pos := "l18_rays.go:116", after := #[], guard := none }) (v := .int .i64 ((q : Int) + 1)) rfl (by kernel_rfl) (by kernel_rfl) (by kernel_rfl) (fun _ _ _ h => h) (Or.inl ⟨by rfl, fun w0 hSw => by (go_simp)⟩) hH ?_
                simp only [Act.put, List.setIfInBounds_toArray, List.set_cons_zero, List.set_cons_succ]
                refine wpAnyH_take (i := 1) (oi := { dst := some 30, op := Op.binOp BinOp.gtr 3 (Operand.tmp 29) (Operand.const (Value.int IntKind.i64 0)) 3, type := 4, pos := "l18_rays.go:116", after := #[{ on := 0, ground := Ground.data }], guard := none }) (v := .bool true) rfl (by kernel_rfl) (by kernel_rfl) (by kernel_rfl) (fun _ _ _ h => h) (Or.inl ⟨by rfl, fun w0 hSw => by (go_simp)⟩) hH ?_
                simp only [Act.put, List.setIfInBounds_toArray, List.set_cons_zero, List.set_cons_succ]
                refine wpAnyH_take (i := 2) (oi := { dst := some 31, op := Op.move (Operand.tmp 30), type := 4, pos := "l18_rays.go:116", after := #[{ on := 1, ground := Ground.data }], guard := none }) (v := .bool true) rfl (by kernel_rfl) (by kernel_rfl) (by kernel_rfl) (fun _ _ _ h => h) (Or.inl ⟨by rfl, fun w0 hSw => by (go_simp)⟩) hH ?_
                simp only [Act.put, List.setIfInBounds_toArray, List.set_cons_zero, List.set_cons_succ]
                refine wpAnyH_take (i := 3) (oi := { dst := some 32, op := Op.load 81 (Operand.tmp 8), type := 81, pos := "l18_rays.go:116", after := #[{ on := 2, ground := Ground.guard }], guard := some (2, true) }) (v := .agg #[.int .i64 tn, .int .i64 td]) rfl (by kernel_rfl) (by kernel_rfl) (by kernel_rfl) (fun _ _ _ h => h) (Or.inl ⟨by rfl, fun w0 hSw => by ((have e0 := cell_nx x0 hSw); (have e1 := cell_nx x1 hSw); go_simp)⟩) hH ?_
                simp only [Act.put, List.setIfInBounds_toArray, List.set_cons_zero, List.set_cons_succ]
                refine wpAnyH_take (i := 4) (oi := { dst := some 33, op := Op.move (Operand.tmp 5), type := 68, pos := "l18_rays.go:116", after := #[{ on := 2, ground := Ground.guard }], guard := some (2, true) }) (v := .slice (some ⟨og, 0, none⟩) M.length oc) rfl (by kernel_rfl) (by kernel_rfl) (by kernel_rfl) (fun _ _ _ h => h) (Or.inl ⟨by rfl, fun w0 hSw => by (go_simp)⟩) hH ?_
                simp only [Act.put, List.setIfInBounds_toArray, List.set_cons_zero, List.set_cons_succ]
                refine wpAnyH_take (i := 5) (oi := { dst := some 34, op := Op.move (Operand.tmp 10), type := 3, pos := "l18_rays.go:116", after := #[{ on := 2, ground := Ground.guard }], guard := some (2, true) }) (v := .int .i64 ((q : Int) + 1)) rfl (by kernel_rfl) (by kernel_rfl) (by kernel_rfl) (fun _ _ _ h => h) (Or.inl ⟨by rfl, fun w0 hSw => by (go_simp)⟩) hH ?_
                simp only [Act.put, List.setIfInBounds_toArray, List.set_cons_zero, List.set_cons_succ]
                refine wpAnyH_take (i := 6) (oi := { dst := some 35, op := Op.binOp BinOp.sub 3 (Operand.tmp 34) (Operand.const (Value.int IntKind.i64 1)) 3, type := 3, pos := "l18_rays.go:116", after := #[{ on := 5, ground := Ground.data }, { on := 2, ground := Ground.guard }], guard := some (2, true) }) (v := .int .i64 (q : Int)) rfl (by kernel_rfl) (by kernel_rfl) (by kernel_rfl) (fun _ _ _ h => h) (Or.inl ⟨by rfl, fun w0 hSw => by (go_simp)⟩) hH ?_
                simp only [Act.put, List.setIfInBounds_toArray, List.set_cons_zero, List.set_cons_succ]
                refine wpAnyH_take (i := 7) (oi := { dst := some 36, op := Op.indexAddr 68 (Operand.tmp 33) (Operand.tmp 35), type := 0, pos := "l18_rays.go:116", after := #[{ on := 4, ground := Ground.data }, { on := 6, ground := Ground.data }, { on := 2, ground := Ground.guard }], guard := some (2, true) }) (v := .pointer (some ⟨og, q * 3, none⟩)) rfl (by kernel_rfl) (by kernel_rfl) (by kernel_rfl) (fun _ _ _ h => h) (Or.inl ⟨by rfl, fun w0 hSw => by (go_simp)⟩) hH ?_
                simp only [Act.put, List.setIfInBounds_toArray, List.set_cons_zero, List.set_cons_succ]
                refine wpAnyH_take (i := 8) (oi := { dst := some 37, op := Op.fieldAddr 45 (Operand.tmp 36) 1, type := 0, pos := "l18_rays.go:116", after := #[{ on := 7, ground := Ground.data }, { on := 2, ground := Ground.guard }], guard := some (2, true) }) (v := .pointer (some ⟨og, q * 3 + 1, none⟩)) rfl (by kernel_rfl) (by kernel_rfl) (by kernel_rfl) (fun _ _ _ h => h) (Or.inl ⟨by rfl, fun w0 hSw => by (go_simp)⟩) hH ?_
                simp only [Act.put, List.setIfInBounds_toArray, List.set_cons_zero, List.set_cons_succ]
                refine wpAnyH_take (i := 9) (oi := { dst := some 38, op := Op.load 3 (Operand.tmp 37), type := 3, pos := "l18_rays.go:116", after := #[{ on := 8, ground := Ground.data }, { on := 2, ground := Ground.guard }], guard := some (2, true) }) (v := .int .i64 mn) rfl (by kernel_rfl) (by kernel_rfl) (by kernel_rfl) (fun _ _ _ h => h) (Or.inl ⟨by rfl, fun w0 hSw => by ((have e0 := cell_nx x2 hSw); go_simp)⟩) hH ?_
                simp only [Act.put, List.setIfInBounds_toArray, List.set_cons_zero, List.set_cons_succ]
                refine wpAnyH_take (i := 10) (oi := { dst := some 39, op := Op.move (Operand.tmp 5), type := 68, pos := "l18_rays.go:116", after := #[{ on := 2, ground := Ground.guard }], guard := some (2, true) }) (v := .slice (some ⟨og, 0, none⟩) M.length oc) rfl (by kernel_rfl) (by kernel_rfl) (by kernel_rfl) (fun _ _ _ h => h) (Or.inl ⟨by rfl, fun w0 hSw => by (go_simp)⟩) hH ?_
                simp only [Act.put, List.setIfInBounds_toArray, List.set_cons_zero, List.set_cons_succ]
                refine wpAnyH_take (i := 11) (oi := { dst := some 40, op := Op.move (Operand.tmp 10), type := 3, pos := "l18_rays.go:116", after := #[{ on := 2, ground := Ground.guard }], guard := some (2, true) }) (v := .int .i64 ((q : Int) + 1)) rfl (by kernel_rfl) (by kernel_rfl) (by kernel_rfl) (fun _ _ _ h => h) (Or.inl ⟨by rfl, fun w0 hSw => by (go_simp)⟩) hH ?_
                simp only [Act.put, List.setIfInBounds_toArray, List.set_cons_zero, List.set_cons_succ]
                refine wpAnyH_take (i := 12) (oi := { dst := some 41, op := Op.binOp BinOp.sub 3 (Operand.tmp 40) (Operand.const (Value.int IntKind.i64 1)) 3, type := 3, pos := "l18_rays.go:116", after := #[{ on := 11, ground := Ground.data }, { on := 2, ground := Ground.guard }], guard := some (2, true) }) (v := .int .i64 (q : Int)) rfl (by kernel_rfl) (by kernel_rfl) (by kernel_rfl) (fun _ _ _ h => h) (Or.inl ⟨by rfl, fun w0 hSw => by (go_simp)⟩) hH ?_
                simp only [Act.put, List.setIfInBounds_toArray, List.set_cons_zero, List.set_cons_succ]
                refine wpAnyH_take (i := 13) (oi := { dst := some 42, op := Op.indexAddr 68 (Operand.tmp 39) (Operand.tmp 41), type := 0, pos := "l18_rays.go:116", after := #[{ on := 10, ground := Ground.data }, { on := 12, ground := Ground.data }, { on := 2, ground := Ground.guard }], guard := some (2, true) }) (v := .pointer (some ⟨og, q * 3, none⟩)) rfl (by kernel_rfl) (by kernel_rfl) (by kernel_rfl) (fun _ _ _ h => h) (Or.inl ⟨by rfl, fun w0 hSw => by (go_simp)⟩) hH ?_
                simp only [Act.put, List.setIfInBounds_toArray, List.set_cons_zero, List.set_cons_succ]
                refine wpAnyH_take (i := 14) (oi := { dst := some 43, op := Op.fieldAddr 45 (Operand.tmp 42) 2, type := 0, pos := "l18_rays.go:116", after := #[{ on := 13, ground := Ground.data }, { on := 2, ground := Ground.guard }], guard := some (2, true) }) (v := .pointer (some ⟨og, q * 3 + 2, none⟩)) rfl (by kernel_rfl) (by kernel_rfl) (by kernel_rfl) (fun _ _ _ h => h) (Or.inl ⟨by rfl, fun w0 hSw => by (go_simp)⟩) hH ?_
                simp only [Act.put, List.setIfInBounds_toArray, List.set_cons_zero, List.set_cons_succ]
                refine wpAnyH_take (i := 15) (oi := { dst := some 44, op := Op.load 3 (Operand.tmp 43), type := 3, pos := "l18_rays.go:116", after := #[{ on := 14, ground := Ground.data }, { on := 2, ground := Ground.guard }], guard := some (2, true) }) (v := .int .i64 md) rfl (by kernel_rfl) (by kernel_rfl) (by kernel_rfl) (fun _ _ _ h => h) (Or.inl ⟨by rfl, fun w0 hSw => by ((have e0 := cell_nx x3 hSw); go_simp)⟩) hH ?_
                simp only [Act.put, List.setIfInBounds_toArray, List.set_cons_zero, List.set_cons_succ]
                refine wpAnyH_take (i := 16) (oi := { dst := some 45, op := Op.build 81 #[(0, Operand.tmp 38), (1, Operand.tmp 44)], type := 81, pos := "l18_rays.go:116", after := #[{ on := 9, ground := Ground.data }, { on := 15, ground := Ground.data }, { on := 2, ground := Ground.guard }], guard := some (2, true) }) (v := .agg #[.int .i64 mn, .int .i64 md]) rfl (by kernel_rfl) (by kernel_rfl) (by kernel_rfl) (fun _ _ _ h => h) (Or.inl ⟨by rfl, fun w0 hSw => by (go_simp)⟩) hH ?_
                simp only [Act.put, List.setIfInBounds_toArray, List.set_cons_zero, List.set_cons_succ]
                refine wpAnyH_ready (rs := [17]) (by kernel_rfl) (by simp) ?_
                refine (AllReadyH.cons (o := { dst := some 46, op := Op.call { callee := Callee.value (Operand.func 81), args := #[Operand.tmp 32, Operand.tmp 45], argTypes := #[81, 81] }, type := 4, pos := "l18_rays.go:116", after := #[{ on := 3, ground := Ground.data }, { on := 16, ground := Ground.data }, { on := 2, ground := Ground.chain }, { on := 2, ground := Ground.guard }], guard := some (2, true) }) rfl (fun K hK => ?_) AllReadyH.nil)
                refine step_callW 81 #[.agg #[.int .i64 tn, .int .i64 td], .agg #[.int .i64 mn, .int .i64 md]] (fun z v w9 => z = .bool true ∧ Below v.heap.size v w9) (by rfl) (by go_simp) ((HLS.out _).mono fun e w9 ⟨h1, h2⟩ => ⟨_, h1, rfl, h2⟩) ?_
                rintro z9 w9 ⟨rfl, B9⟩
                simp only [Act.put, List.setIfInBounds_toArray, List.set_cons_zero, List.set_cons_succ]
                refine hK.out _ _ (hH.trans (B9.mono hH.size)) (fun hH' => ?_)
                clear hK K
                replace hH := hH'
                clear hH' B9
                refine wpAnyH_take (i := 18) (oi := { dst := some 47, op := Op.pick (Operand.tmp 31) (Operand.tmp 46) (Operand.const (Value.bool false)), type := 4, pos := "l18_rays.go:116", after := #[{ on := 2, ground := Ground.data }, { on := 17, ground := Ground.data }], guard := none }) (v := .bool true) rfl (by kernel_rfl) (by kernel_rfl) (by kernel_rfl) (fun _ _ _ h => h) (Or.inl ⟨by rfl, fun w0 hSw => by (go_simp)⟩) hH ?_
                simp only [Act.put, List.setIfInBounds_toArray, List.set_cons_zero, List.set_cons_succ]
                refine wpAnyH_done (by kernel_rfl) ?_ _
                have BX := BX.trans (hH.mono BX.size)
                clear hH x0 x1 x2 x3 HLS
                go_wp2
                go_roundw
                case rel => exact ⟨q, by omega, by go_num, HP, BX⟩
                case measure => simp [intOf]; try omega
    · obtain rfl : n = k := by omega
      have i1 : ¬ (n : Int) < (n : Int) := by omega
      obtain ⟨a, c2, rfl⟩ := HH.out.is
      go_wp2
      go_ret
      exact ⟨_, rfl, HH.out, BW.trans (HBW.mono BW.size)⟩
end Go.Proofs.Ytngmaeinehfimaa
