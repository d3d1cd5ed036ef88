/- The program's rowOf. -/
import Derived.Test.YtcgapochcahknaaDoorNrw
import Derived.Deep.RegionHeld3
import Derived.Deep.RegionWith
namespace Go.Proofs.YtcgapochcahknaaDoor
open Go.ChangeShapes Go.WideShapes Go.ChangeAt Go.RowKit
set_option linter.unusedVariables false
/-- What rowOf keeps within a round: the step is there, its needs are not. -/
structure Rp (c : Rc) (w : World) (rb nb B k kl : Nat) (P Q : Nat → Value) (us ul : Value) : Prop where
  fx : Fx c w rb nb B (k + 1) k P Q
  st : w.ownsRow B 101 9 us (k + 1) (c.sL P Q (k + 1))
  la : Ri B w ul (c.ll kl)
  c0 : w.cell? ⟨rb, 0, none⟩ = some ul
  su : ∀ g, us.ownBlock = some g → ¬ FxB w nb (k + 1) k P Q g
  sl : ∀ g, ul.ownBlock = some g → ¬ FxB w nb (k + 1) k P Q g
theorem Rp.next {c : Rc} {w w' : World} {rb nb B k kl : Nat} {P Q : Nat → Value} {us ul : Value} (h : Rp c w rb nb B k kl P Q us ul) (b : Below w.heap.size w w') : Rp c w' rb nb B k kl P Q us ul :=
  ⟨h.fx.next b, h.st.kept (row := none) ⟨b.os, b.tape, b.output, b.size, fun i hi _ => b.block i hi⟩ (by cases e : us.ownBlock <;> simp), h.la.next b, cell_nx h.c0 b, fun g hg q => h.su g hg (q.next b h.fx.nq.hq), fun g hg q => h.sl g hg (q.next b h.fx.nq.hq)⟩
/-- The step is appended. -/
theorem Ro.stepA {c : Rc} {w w5 : World} {rb nb B k A g3 cp3 : Nat} {P Q : Nat → Value} {us ul r v : Value} (h : Ro c w rb nb B k P Q us ul) (hr : IOwn A w r (srt (opsL (c.O k) (c.A k) (c.B k) (c.C k) (c.X k)))) (hv : IOwn A w v (wrL (c.O k) (c.D k))) (hA : B ≤ A) (au : ∀ g, us.ownBlock = some g → g < A) (al : ∀ g, ul.ownBlock = some g → g < A)
    (hown : w5.ownsRow B 101 9 (.slice (some ⟨g3, 0, none⟩) (k + 1) cp3) (k + 1) (c.sL P Q k ++ c.s9 (upN P k r) (upN Q k v) k)) (gr : w.grownBy w5 us.ownBlock) (hat : us.ownBlock = some g3 ∨ g3 = w.heap.size) : Rp c w5 rb nb B k k (upN P k r) (upN Q k v) (.slice (some ⟨g3, 0, none⟩) (k + 1) cp3) ul := by
  obtain ⟨f1, f2⟩ := h.fx.grown gr (fun g hg => (h.st.lt g hg).1) h.su
  have r5 : IOwn A w5 r (srt (opsL (c.O k) (c.A k) (c.B k) (c.C k) (c.X k))) := hr.grown' gr (fun g hg e => by have := (hr.blk g hg).1; have := au g e; omega)
  have v5 : IOwn A w5 v (wrL (c.O k) (c.D k)) := hv.grown' gr (fun g hg e => by have := (hv.blk g hg).1; have := au g e; omega)
  obtain ⟨f3, f4⟩ := f1.more (r5.low hA) (v5.low hA)
  have hlu : ∀ g, ul.ownBlock = some g → us.ownBlock ≠ some g := rows_apart h.la.1 h.st (by decide)
  have zr : ∀ b, b < B → w5.heap[b]? = w.heap[b]? := fun b hb => gr.block b (Nat.lt_of_lt_of_le hb h.fx.hs) (fun e => by have := (h.st.lt b e.symm).1; omega)
  refine ⟨f3, ?_, ⟨h.la.1.kept gr (by
      cases e : ul.ownBlock with
      | none => exact Or.inl rfl
      | some g => exact Or.inr (fun q => hlu g e q.symm)), Nat.le_trans h.la.2 gr.size⟩, (World.cell?_of_block (w := w) (a := ⟨rb, 0, none⟩) (zr rb h.fx.hr)).trans h.c0, fun g hg q => ?_, fun g hg q => ?_⟩
  · rw [Rc.sL, c.sL_ext (P := upN P k r) (Q := upN Q k v) (P' := P) (Q' := Q) k (fun i hi => ⟨upN_ne _ _ (by omega), upN_ne _ _ (by omega)⟩)]
    exact hown
  · have e3 : g3 = g := by simpa [Value.ownBlock] using hg
    subst e3
    rcases f4 g3 q with q1 | q1 | q1
    · have q2 := f2 g3 q1
      rcases hat with e | e
      · exact h.su g3 e q2
      · have := (h.fx.lt q2).2; omega
    · have q2 := hr.blk g3 q1
      rcases hat with e | e
      · have := au g3 e; omega
      · omega
    · have q2 := hv.blk g3 q1
      rcases hat with e | e
      · have := au g3 e; omega
      · omega
  · rcases f4 g q with q1 | q1 | q1
    · exact h.sl g hg (f2 g q1)
    · have := (hr.blk g q1).1; have := al g hg; omega
    · have := (hv.blk g q1).1; have := al g hg; omega
/-- Its latency is appended, and the row of latencies is stored. -/
theorem Rp.stepB {c : Rc} {w w7 : World} {rb nb B k g4 cp4 : Nat} {P Q : Nat → Value} {us ul : Value} (h : Rp c w rb nb B k k P Q us ul)
    (hown : w7.ownsRow B 3 1 (.slice (some ⟨g4, 0, none⟩) (k + 1) cp4) (k + 1) (il (c.ll k) ++ [.int .i64 (c.la k)])) (gr : w.grownBy w7 ul.ownBlock) (hat : ul.ownBlock = some g4 ∨ g4 = w.heap.size) : Rp c (w7.setCell ⟨rb, 0, none⟩ (.slice (some ⟨g4, 0, none⟩) (k + 1) cp4)) rb nb B k (k + 1) P Q us (.slice (some ⟨g4, 0, none⟩) (k + 1) cp4) := by
  obtain ⟨f1, f2⟩ := h.fx.grown gr (fun g hg => (h.la.lt g hg).1) h.sl
  obtain ⟨f3, f4⟩ := f1.set0 (.slice (some ⟨g4, 0, none⟩) (k + 1) cp4)
  have on : Only rb w7 (w7.setCell ⟨rb, 0, none⟩ (.slice (some ⟨g4, 0, none⟩) (k + 1) cp4)) := (Only.refl _ _).setCell _ _
  have og : w7.grownBy (w7.setCell ⟨rb, 0, none⟩ (.slice (some ⟨g4, 0, none⟩) (k + 1) cp4)) (some rb) := ⟨on.os, on.tape, on.output, on.size, fun i hi hn => on.block i hi (fun e => hn (by rw [e]))⟩
  have hul : ∀ g, us.ownBlock = some g → ul.ownBlock ≠ some g := rows_apart h.st h.la.1 (by decide)
  have zr : ∀ b, b < B → w7.heap[b]? = w.heap[b]? := fun b hb => gr.block b (Nat.lt_of_lt_of_le hb h.fx.hs) (fun e => by have := (h.la.lt b e.symm).1; omega)
  have st7 : w7.ownsRow B 101 9 us (k + 1) (c.sL P Q (k + 1)) := h.st.kept gr (by
      cases e : us.ownBlock with
      | none => exact Or.inl rfl
      | some g => exact Or.inr (fun q => hul g e q.symm))
  have c7 : w7.cell? ⟨rb, 0, none⟩ = some ul := (World.cell?_of_block (w := w) (a := ⟨rb, 0, none⟩) (zr rb h.fx.hr)).trans h.c0
  refine ⟨f3, st7.kept og (Or.inr (fun q => by have := (st7.lt rb q).1; have := h.fx.hr; omega)), ⟨?_, Nat.le_trans f1.hs on.size⟩, World.cell?_setCell_same' _ _ _ (by rw [c7]; rfl), fun g hg q => h.su g hg (f2 g (f4 g q)), fun g hg q => ?_⟩
  · have h1 : w7.ownsRow B 3 1 (.slice (some ⟨g4, 0, none⟩) (k + 1) cp4) (c.ll (k + 1)).length (il (c.ll (k + 1))) := by
      rw [c.ll_len, Rc.ll, il_app]
      exact hown
    exact h1.kept og (Or.inr (fun q => by have := (h1.lt rb q).1; have := h.fx.hr; omega))
  · have e3 : g4 = g := by simpa [Value.ownBlock] using hg
    subst e3
    have q2 := f2 g4 (f4 g4 q)
    rcases hat with e | e
    · exact h.sl g4 e q2
    · have := (h.fx.lt q2).2; omega
theorem Rp.begin {c : Rc} {w : World} {rb nb B k : Nat} {P Q : Nat → Value} {us ul : Value} (h : Rp c w rb nb B k (k + 1) P Q us ul) (hk : k < c.n) : Np B w nb c.n k w.heap.size c.np (.slice none 0 0) (c.npk k 0) := h.fx.nq.begin hk h.fx.hs
theorem Rp.cells {c : Rc} {w : World} {rb nb B k kl g3 cp3 : Nat} {P Q : Nat → Value} {ul : Value} (h : Rp c w rb nb B k kl P Q (.slice (some ⟨g3, 0, none⟩) (k + 1) cp3) ul) (i f : Nat) (hi : i < k + 1) (hf : f < 9) : w.cell? ⟨g3, i * 9 + f, none⟩ = (c.s9 P Q i)[f]? := by
  rw [World.ownsRow.cellAt h.st (i * 9 + f) (by omega)]
  exact c.sL_at P Q (k + 1) i f hi hf
/-- What rowOf answers of a row. -/
def RowA (w : World) (u v : Value) (c : Rc) : Prop := ARow w u (c.ll c.n) ∧ ∃ nb, v = .slice (some ⟨nb, 0, none⟩) c.n c.n ∧ ∀ j, j < c.n → ∃ x, w.cell? ⟨nb, j, none⟩ = some x ∧ PRow w x (c.np j)
theorem RowA.next {w w' : World} {u v : Value} {c : Rc} (h : RowA w u v c) (b : Below w.heap.size w w') : RowA w' u v c := by
  obtain ⟨h1, nb, h2, h3⟩ := h
  refine ⟨h1.next b, nb, h2, fun j hj => ?_⟩
  obtain ⟨x, h4, h5⟩ := h3 j hj
  exact ⟨x, cell_nx h4 b, h5.next b⟩
/-- .. in blocks of its own. -/
def RowX (B : Nat) (w : World) (u v : Value) (c : Rc) : Prop := IOwn B w u (c.ll c.n) ∧ ∃ nb, B ≤ nb ∧ v = .slice (some ⟨nb, 0, none⟩) c.n c.n ∧ ∀ j, j < c.n → ∃ x, w.cell? ⟨nb, j, none⟩ = some x ∧ NOwn B w x (c.np j)
theorem RowX.but {B p : Nat} {w w' : World} {u v : Value} {c : Rc} (h : RowX B w u v c) (on : Only p w w') (hp : p < B) : RowX B w' u v c := by
  obtain ⟨h1, nb, h0, h2, h3⟩ := h
  refine ⟨h1.but' on hp, nb, h0, h2, fun j hj => ?_⟩
  obtain ⟨x, h4, h5⟩ := h3 j hj
  exact ⟨x, only_cell on h4 (by omega), h5.but' on hp⟩
theorem RowX.rowA {B : Nat} {w : World} {u v : Value} {c : Rc} (h : RowX B w u v c) : RowA w u v c := by
  obtain ⟨h1, nb, h0, h2, h3⟩ := h
  refine ⟨h1.arow, nb, h2, fun j hj => ?_⟩
  obtain ⟨x, h4, h5⟩ := h3 j hj
  exact ⟨x, h4, h5.prow⟩
theorem NOwn.low {B B' : Nat} {w : World} {v : Value} {L : List (Int × Int)} (h : NOwn B w v L) (hb : B' ≤ B) : NOwn B' w v L := by
  rcases h with h | ⟨g, c, h1, h2, h3, h4⟩
  · exact Or.inl h
  · exact Or.inr ⟨g, c, h1, h2, Nat.le_trans hb h3, h4⟩
theorem Ro.ansX {c : Rc} {w : World} {rb nb B B' : Nat} {P Q : Nat → Value} {us ul : Value} (h : Ro c w rb nb B c.n P Q us ul) (hb : B' ≤ B) (hn : B' ≤ nb) : RowX B' w ul (.slice (some ⟨nb, 0, none⟩) c.n c.n) c :=
  ⟨h.la.own.low hb, nb, hn, rfl, fun j hj => by
    obtain ⟨x, h1, h2⟩ := h.fx.nq.row j hj
    exact ⟨x, h1, h2.low hb⟩⟩
theorem Ro.ans {c : Rc} {w : World} {rb nb B : Nat} {P Q : Nat → Value} {us ul : Value} (h : Ro c w rb nb B c.n P Q us ul) : RowA w ul (.slice (some ⟨nb, 0, none⟩) c.n c.n) c :=
  ⟨h.la.own.arow, nb, rfl, fun j hj => by
    obtain ⟨x, h1, h2⟩ := h.fx.nq.row j hj
    exact ⟨x, h1, h2.prow⟩⟩
theorem two_new {w : World} (a b : Int) : ∀ j u, [Value.int .i64 a, .int .i64 b][j]? = some u → (w.alloc (.cells #[.int .i64 a, .int .i64 b] 70)).cell? ((⟨w.heap.size, 0, none⟩ : Addr).add j) = some u := by
  intro j u hj
  match j, hj with
  | 0, hj => simp at hj; subst hj; simp [Addr.add]
  | 1, hj => simp at hj; subst hj; simp [Addr.add]
theorem two_one (a b : Int) : ∀ u ∈ [Value.int .i64 a, .int .i64 b], u.oneCell' = true := by
  intro u hu
  simp at hu
  rcases hu with rfl | rfl <;> rfl
theorem nine_new (w : World) (cs : Array Value) (t : TypeId) : ∀ j u, cs.toList[j]? = some u → (w.alloc (.cells cs t)).cell? ((⟨w.heap.size, 0, none⟩ : Addr).add j) = some u := by
  intro j u hj
  have hadd : (⟨w.heap.size, 0, none⟩ : Addr).add j = ⟨w.heap.size, j, none⟩ := by unfold Addr.add; split <;> simp_all
  rw [hadd, World.cell?_alloc_mark]
  simpa using hj
theorem nine_ones (o d a b c x t : Int) (r v : Option Addr) (rl rc vl vc : Nat) : ∀ u ∈ [Value.int .i64 o, .int .i64 d, .int .i64 a, .int .i64 b, .int .i64 c, .int .u32 x, .slice r rl rc, .slice v vl vc, .int .i64 t], u.oneCell' = true := by
  intro u hu
  simp at hu
  rcases hu with rfl | rfl | rfl | rfl | rfl | rfl | rfl | rfl | rfl <;> rfl
theorem info_st : (Tryd.prog.info? 101).map (fun i => (i.zero, i.size, i.bytes)) = some (some (.agg #[.int .i64 0, .int .i64 0, .int .i64 0, .int .i64 0, .int .i64 0, .int .u32 0, .slice none 0 0, .slice none 0 0, .int .i64 0]), 9, 104) := by kernel_rfl
theorem info_nd : (Tryd.prog.info? 70).map (fun i => (i.zero, i.size, i.bytes)) = some (some (.agg #[.int .i64 0, .int .i64 0]), 2, 16) := by kernel_rfl
theorem info_ns : (Tryd.prog.info? 68).map (fun i => (i.zero, i.size, i.bytes)) = some (some (.slice none 0 0), 1, 24) := by kernel_rfl
set_option maxRecDepth 100000 in
set_option maxHeartbeats 16000000 in
theorem rowof (b off cap : Nat) (c : Rc) (w : World) (G : Forms w) (R : Ir w b off c) (hX : c.wd) (hn : c.n ≤ 1048576) : Calls Tryd.prog 46 #[.slice (some ⟨b, off, none⟩) c.n cap] w fun e w' => ∃ ua ul uc va vl vc, e = .returned (.tuple #[.agg #[.slice ua ul uc, .slice va vl vc], .bool c.row]) ∧ (c.row = true → RowA w' (.slice ua ul uc) (.slice va vl vc) c) ∧ Below w.heap.size w w' := by
  obtain ⟨i3, hi3, hz30, hz31, hz32⟩ := info_parts info3
  obtain ⟨i9, hi9, hz90, hz91, hz92⟩ := info_parts info_st
  obtain ⟨i7, hi7, hz70, hz71, hz72⟩ := info_parts info_nd
  obtain ⟨i8, hi8, hz80, hz81, hz82⟩ := info_parts info_ns
  have BW0 : Below w.heap.size w (w.alloc (.cells #[.slice none 0 0, .slice none 0 0] 65)) := alloc_b
  have HBw : Hid (∀ v, Below (w.alloc (.cells #[.slice none 0 0, .slice none 0 0] 65)).heap.size (w.alloc (.cells #[.slice none 0 0, .slice none 0 0] 65)) v → Below w.heap.size w v) := fun v k => BW0.trans (k.mono BW0.size)
  have HRC : Hid (∀ v, Below (w.alloc (.cells #[.slice none 0 0, .slice none 0 0] 65)).heap.size (w.alloc (.cells #[.slice none 0 0, .slice none 0 0] 65)) v → v.cell? ⟨w.heap.size, 0, none⟩ = some (.slice none 0 0) ∧ v.cell? ⟨w.heap.size, 1, none⟩ = some (.slice none 0 0) ∧ v.frozen? ⟨w.heap.size, 0, none⟩ = false ∧ v.frozen? ⟨w.heap.size, 1, none⟩ = false) := fun v k => by
    have q1 : w.heap.size < (w.alloc (.cells #[.slice none 0 0, .slice none 0 0] 65)).heap.size := by simp
    refine ⟨?_, ?_, ?_, ?_⟩
    · rw [k.cell (p := ⟨w.heap.size, _, none⟩) q1]; simp
    · rw [k.cell (p := ⟨w.heap.size, _, none⟩) q1]; simp
    · rw [k.frozen (p := ⟨w.heap.size, _, none⟩) q1]; simp
    · rw [k.frozen (p := ⟨w.heap.size, _, none⟩) q1]; simp
  have HR := Hid.mk R
  have HF : Hid (∀ v, Below w.heap.size w v → Forms v) := fun v k => G.below k
  have H80 : Hid (c.n ≤ 64 → Calls Tryd.prog 80 #[.slice (some ⟨b, off, none⟩) c.n cap, .func (.func 81) #[] #[]] (w.alloc (.cells #[.slice none 0 0, .slice none 0 0] 65)) fun e w' => e = .returned (.bool (!allB c.gi c.n)) ∧ Below (w.alloc (.cells #[.slice none 0 0, .slice none 0 0] 65)).heap.size (w.alloc (.cells #[.slice none 0 0, .slice none 0 0] 65)) w') := fun h => contout b off cap c (w.alloc (.cells #[.slice none 0 0, .slice none 0 0] 65)) (G.below BW0) (R.next BW0) hX h
  have HGI : Hid (c.row = true → ∀ k, k < c.n → GI (c.O k) (c.D k) (c.A k) (c.B k) (c.C k) (c.X k)) := fun hr k hk => (Rc.row_g hr hX k hk).1
  have HQ : Hid (c.row = ((decide (1 ≤ c.n) && decide (c.n ≤ 64)) && allB c.gi c.n)) := rfl
  obtain ⟨n, hn2⟩ : ∃ n, c.n = n := ⟨_, rfl⟩
  have HN : Hid (c.n = n) := hn2
  rw [hn2] at hn HQ H80 ⊢
  clear hn2 R hX G BW0
  by_cases h1 : 1 ≤ n
  case neg =>
    have i1 : (n : Int) < 1 := by omega
    have HV : Hid (c.row = false) := by show _ = _; rw [HQ.out, decide_eq_false h1]; rfl
    obtain ⟨r0, r1, s0, s1⟩ := HRC.out _ (Below.refl _ _)
    rw [HV.out]
    go_enter Tryd.func46, Tryd.ntmps46
    go_wp2
    first
    | exact bodyPost_ret (v := .tuple #[.agg #[.slice none 0 0, .slice none 0 0], .bool false]) (by simp [results, Tryd.results46, go_sem]) rfl ⟨_, _, _, _, _, _, rfl, (fun h => by cases h), alloc_b⟩
    | exact bodyPost_ret (v := .tuple #[.agg #[.slice none 0 0, .slice none 0 0], .bool false]) (by simp [results, Tryd.results46, go_sem]) rfl ⟨⟨_, _, _, _, _, _, rfl⟩, alloc_b⟩
  have i1 : ¬ (n : Int) < 1 := by omega
  by_cases h2 : n ≤ 64
  case neg =>
    have i2 : (64 : Int) < (n : Int) := by omega
    have HV : Hid (c.row = false) := by show _ = _; rw [HQ.out, decide_eq_true h1, decide_eq_false h2]; rfl
    rw [HV.out]
    go_enter Tryd.func46, Tryd.ntmps46
    go_wp2
    first
    | exact bodyPost_ret (v := .tuple #[.agg #[.slice none 0 0, .slice none 0 0], .bool false]) (by simp [results, Tryd.results46, go_sem]) rfl ⟨_, _, _, _, _, _, rfl, (fun h => by cases h), alloc_b⟩
    | exact bodyPost_ret (v := .tuple #[.agg #[.slice none 0 0, .slice none 0 0], .bool false]) (by simp [results, Tryd.results46, go_sem]) rfl ⟨⟨_, _, _, _, _, _, rfl⟩, alloc_b⟩
  have i2 : ¬ (64 : Int) < (n : Int) := by omega
  have h80 := H80.out h2
  have HQ2 : Hid (c.row = allB c.gi n) := by show _ = _; rw [HQ.out, decide_eq_true h1, decide_eq_true h2]; rfl
  clear H80 HQ
  rw [HQ2.out]
  cases hal : allB c.gi n
  case false =>
    rw [hal] at h80
    clear hal
    go_enter Tryd.func46, Tryd.ntmps46
    go_wp2_with (go_at_call 80; refine h80.mono ?_; rintro e w1 ⟨rfl, B1⟩; (obtain ⟨r0, r1, s0, s1⟩ := HRC.out _ B1))
    first
    | exact bodyPost_ret (v := .tuple #[.agg #[.slice none 0 0, .slice none 0 0], .bool false]) (by simp [results, Tryd.results46, go_sem, r0, r1]) rfl ⟨_, _, _, _, _, _, rfl, (fun h => by cases h), ((HBw.out _ B1).setCell (p := ⟨w.heap.size, 0, none⟩) (Nat.le_refl _) _).setCell (p := ⟨w.heap.size, 1, none⟩) (Nat.le_refl _) _⟩
    | exact bodyPost_ret (v := .tuple #[.agg #[.slice none 0 0, .slice none 0 0], .bool false]) (by simp [results, Tryd.results46, go_sem, r0, r1]) rfl ⟨⟨_, _, _, _, _, _, rfl⟩, ((HBw.out _ B1).setCell (p := ⟨w.heap.size, 0, none⟩) (Nat.le_refl _) _).setCell (p := ⟨w.heap.size, 1, none⟩) (Nat.le_refl _) _⟩
  rw [hal] at h80
  have HGI : Hid (∀ k, k < c.n → GI (c.O k) (c.D k) (c.A k) (c.B k) (c.C k) (c.X k)) := HGI.out (by rw [HQ2.out]; exact hal)
  clear hal HQ2
  go_enter Tryd.func46, Tryd.ntmps46
  go_wp2_with (first | (go_at_call 80; refine h80.mono ?_; rintro e w1 ⟨rfl, B1⟩) | (at_make; refine wpList_make_full _ rfl _ _ 63 rfl w1.heap.size 68 i8 (.slice none 0 0) 1 Tryd.underlying63 hi8 hz80 hz81 _ _ _ _ n rfl rfl (by first | rfl | omega) (by first | rfl | omega) (by rw [hz82]; omega) (by unfold maxLen; omega) (by simp) ?_; intro w2 hown2 hgrow2))
  have O2 : Own w2 w1.heap.size n (fun _ => .slice none 0 0) := own_made hown2
  have B12 : Below w1.heap.size w1 w2 := (Below.refl _ _).grown hgrow2 (Nat.le_refl _) (by simp)
  obtain ⟨nb, hnb⟩ : ∃ nb, w1.heap.size = nb := ⟨_, rfl⟩
  obtain ⟨rb, hrb⟩ : ∃ rb, w2.heap.size = rb := ⟨_, rfl⟩
  rw [hnb] at O2 ⊢
  have hnr : nb < rb := by have := O2.hi; omega
  have HLN : Hid ((w.alloc (.cells #[.slice none 0 0, .slice none 0 0] 65)).heap.size ≤ nb) := by have := B1.size; show _ ≤ _; omega
  have HLR : Hid ((w.alloc (.cells #[.slice none 0 0, .slice none 0 0] 65)).heap.size ≤ rb) := by have := HLN.out; show _ ≤ _; omega
  have HNE : Hid (rb ≠ nb) := by show _ ≠ _; omega
  have B3 : Hid (Below (w.alloc (.cells #[.slice none 0 0, .slice none 0 0] 65)).heap.size (w.alloc (.cells #[.slice none 0 0, .slice none 0 0] 65)) (w2.alloc (.cells #[.slice none 0 0, .slice (some ⟨nb, 0, none⟩) n n] 65))) := (B1.trans (B12.mono B1.size)).alloc (by have := B1.size; have := B12.size; omega) _
  have RO0 : Hid (Ro c (w2.alloc (.cells #[.slice none 0 0, .slice (some ⟨nb, 0, none⟩) n n] 65)) rb nb (rb + 1) 0 (fun _ => .slice none 0 0) (fun _ => .slice none 0 0) (.slice none 0 0) (.slice none 0 0)) := by
    have z3 : (w2.alloc (.cells #[.slice none 0 0, .slice (some ⟨nb, 0, none⟩) n n] 65)).heap.size = rb + 1 := by rw [World.size_alloc, hrb]
    refine ⟨⟨?_, fun i => ?_, fun i hi => by omega, fun i hi => by omega, ?_, by omega, by omega, by omega⟩, World.ownsRow_nil _ _ _ _, ⟨World.ownsRow_nil _ _ _ _, by omega⟩, ?_, fun g hg => by simp [Value.ownBlock] at hg, fun g hg => by simp [Value.ownBlock] at hg⟩
    · rw [HN.out, ← hrb]; simp
    · rw [← hrb]; simp
    · rw [HN.out]
      exact ((nq_made O2 c.np).raise (by omega)).next alloc_b
    · rw [← hrb]; simp
  obtain ⟨B, hB⟩ : ∃ B, rb + 1 = B := ⟨_, rfl⟩
  rw [hB] at RO0
  have HLB : Hid ((w.alloc (.cells #[.slice none 0 0, .slice none 0 0] 65)).heap.size ≤ B) := by have := HLR.out; show _ ≤ _; omega
  rw [hrb]
  clear hB hrb hnb O2 B12 hown2 hgrow2 B1 h80
  go_wp2
  go_loopw [5, 30] (fun vv i wr => ∃ (k : Nat) (P Q : Nat → Value) (us ul : Value), k ≤ n ∧ i = .int .i64 k ∧ us = vv ∧ Hid (Ro c wr rb nb B k P Q us ul) ∧ Hid (Below (w.alloc (.cells #[.slice none 0 0, .slice none 0 0] 65)).heap.size (w.alloc (.cells #[.slice none 0 0, .slice none 0 0] 65)) wr)) (fun _ i _ => n - (intOf i).toNat)
  case atStart => exact ⟨0, _, _, _, _, Nat.zero_le _, rfl, rfl, RO0, B3⟩
  case round =>
    obtain ⟨k, P, Q, us, ul, hk, rfl, rfl, HRO, HB⟩ := hrel
    clear RO0 B3
    by_cases hkn : k < n
    · have j1 : (k : Int) < (n : Int) := by omega
      have j0 : (0 : Int) ≤ (k : Int) := by omega
      have hkc : k < c.n := by rw [HN.out]; exact hkn
      have RW := HR.out.next (HBw.out _ HB.out)
      have e0 := RW.c0 k hkc
      have e1 := RW.c1 k hkc
      have e2 := RW.c2 k hkc
      have e3 := RW.c3 k hkc
      have e4 := RW.c4 k hkc
      have e5 := RW.c5 k hkc
      have HBA : Hid (Below (w.alloc (.cells #[.slice none 0 0, .slice none 0 0] 65)).heap.size (w.alloc (.cells #[.slice none 0 0, .slice none 0 0] 65)) (wr.alloc (.cells #[.int .i64 (c.O k), .int .i64 (c.D k), .int .i64 (c.A k), .int .i64 (c.B k), .int .i64 (c.C k), .int .u32 (c.X k)] 35))) := HB.out.trans (alloc_b.mono HB.out.size)
      have h82 := stepof (c.O k) (c.D k) (c.A k) (c.B k) (c.C k) (c.X k) (wr.alloc (.cells #[.int .i64 (c.O k), .int .i64 (c.D k), .int .i64 (c.A k), .int .i64 (c.B k), .int .i64 (c.C k), .int .u32 (c.X k)] 35)) (HF.out _ (HBw.out _ HBA.out)) (HGI.out k hkc)
      clear RW
      have HROA : Hid (Ro c (wr.alloc (.cells #[.int .i64 (c.O k), .int .i64 (c.D k), .int .i64 (c.A k), .int .i64 (c.B k), .int .i64 (c.C k), .int .u32 (c.X k)] 35)) rb nb B k P Q us ul) := HRO.out.next alloc_b
      have HSA : Hid (B ≤ (wr.alloc (.cells #[.int .i64 (c.O k), .int .i64 (c.D k), .int .i64 (c.A k), .int .i64 (c.B k), .int .i64 (c.C k), .int .u32 (c.X k)] 35)).heap.size ∧ (∀ g, us.ownBlock = some g → g < (wr.alloc (.cells #[.int .i64 (c.O k), .int .i64 (c.D k), .int .i64 (c.A k), .int .i64 (c.B k), .int .i64 (c.C k), .int .u32 (c.X k)] 35)).heap.size) ∧ ∀ g, ul.ownBlock = some g → g < (wr.alloc (.cells #[.int .i64 (c.O k), .int .i64 (c.D k), .int .i64 (c.A k), .int .i64 (c.B k), .int .i64 (c.C k), .int .u32 (c.X k)] 35)).heap.size) := ⟨HROA.out.fx.hs, fun g hg => (HROA.out.st.lt g hg).2, fun g hg => (HROA.out.la.lt g hg).2⟩
      clear HRO
      obtain ⟨AA, hAA⟩ : ∃ AA, (wr.alloc (.cells #[.int .i64 (c.O k), .int .i64 (c.D k), .int .i64 (c.A k), .int .i64 (c.B k), .int .i64 (c.C k), .int .u32 (c.X k)] 35)).heap.size = AA := ⟨_, rfl⟩
      rw [hAA] at HSA
      have h82' : Calls Tryd.prog 82 #[.agg #[.int .i64 (c.O k), .int .i64 (c.D k), .int .i64 (c.A k), .int .i64 (c.B k), .int .i64 (c.C k), .int .u32 (c.X k)]] (wr.alloc (.cells #[.int .i64 (c.O k), .int .i64 (c.D k), .int .i64 (c.A k), .int .i64 (c.B k), .int .i64 (c.C k), .int .u32 (c.X k)] 35)) fun e w' => ∃ r v, e = .returned (.agg #[.int .i64 (c.O k), .int .i64 (c.D k), .int .i64 (c.A k), .int .i64 (c.B k), .int .i64 (c.C k), .int .u32 (c.X k), r, v, .int .i64 (c.la k)]) ∧ IOwn AA w' r (srt (opsL (c.O k) (c.A k) (c.B k) (c.C k) (c.X k))) ∧ IOwn AA w' v (wrL (c.O k) (c.D k)) ∧ Below (wr.alloc (.cells #[.int .i64 (c.O k), .int .i64 (c.D k), .int .i64 (c.A k), .int .i64 (c.B k), .int .i64 (c.C k), .int .u32 (c.X k)] 35)).heap.size (wr.alloc (.cells #[.int .i64 (c.O k), .int .i64 (c.D k), .int .i64 (c.A k), .int .i64 (c.B k), .int .i64 (c.C k), .int .u32 (c.X k)] 35)) w' := by rw [← hAA]; exact h82
      clear hAA h82
      go_wp2_with (first | (go_at_call 82; refine h82'.mono ?_; rintro e w4 ⟨r0, v0, rfl, I1, I2, B4⟩; (obtain ⟨ar, cr, rfl⟩ := I1.row.is); (obtain ⟨av, cv, rfl⟩ := I2.row.is); (obtain ⟨lr, hlr⟩ : ∃ lr, (srt (opsL (c.O k) (c.A k) (c.B k) (c.C k) (c.X k))).length = lr := ⟨_, rfl⟩); (obtain ⟨lv, hlv⟩ : ∃ lv, (wrL (c.O k) (c.D k)).length = lv := ⟨_, rfl⟩); (rw [hlr] at I1 ⊢); (rw [hlv] at I2 ⊢); (clear hlr hlv); (have RO4 : Hid (Ro c (w4.alloc (.cells #[.int .i64 (c.O k), .int .i64 (c.D k), .int .i64 (c.A k), .int .i64 (c.B k), .int .i64 (c.C k), .int .u32 (c.X k), .slice ar lr cr, .slice av lv cv, .int .i64 (c.la k)] 101)) rb nb B k P Q us ul) := (HROA.out.next B4).next alloc_b)) | (at_builtin; refine wpList_append_lies _ rfl _ _ 99 rfl B 101 i9 (.agg #[.int .i64 0, .int .i64 0, .int .i64 0, .int .i64 0, .int .i64 0, .int .u32 0, .slice none 0 0, .slice none 0 0, .int .i64 0]) 9 104 Tryd.underlying99 hi9 hz90 hz91 hz92 rfl (by decide) _ _ _ rfl RO4.out.st ⟨_, 0, none⟩ 1 1 [.int .i64 (c.O k), .int .i64 (c.D k), .int .i64 (c.A k), .int .i64 (c.B k), .int .i64 (c.C k), .int .u32 (c.X k), .slice ar lr cr, .slice av lv cv, .int .i64 (c.la k)] rfl rfl ?_ ?_ (by decide) ?_ ?_ ?_ _ rfl ?_))
      · exact nine_new w4 #[.int .i64 (c.O k), .int .i64 (c.D k), .int .i64 (c.A k), .int .i64 (c.B k), .int .i64 (c.C k), .int .u32 (c.X k), .slice ar lr cr, .slice av lv cv, .int .i64 (c.la k)] _
      · exact nine_ones _ _ _ _ _ _ _ _ _ _ _ _ _
      · unfold maxLen; omega
      · omega
      · exact RO4.out.fx.hs
      intro g3 cp3 w5 hown hgrow hat hlt
      have HPA : Hid (Rp c w5 rb nb B k k (upN P k (.slice ar lr cr)) (upN Q k (.slice av lv cv)) (.slice (some ⟨g3, 0, none⟩) (k + 1) cp3) ul) := RO4.out.stepA (A := AA) (I1.next' alloc_b) (I2.next' alloc_b) HSA.out.1 HSA.out.2.1 HSA.out.2.2 (by unfold Rc.s9; rw [upN_at, upN_at]; exact hown) hgrow (hat.imp id (fun e => by rw [e]; simp))
      have HB5 : Hid (Below (w.alloc (.cells #[.slice none 0 0, .slice none 0 0] 65)).heap.size (w.alloc (.cells #[.slice none 0 0, .slice none 0 0] 65)) w5) := (((HBA.out.trans (B4.mono HBA.out.size)).alloc (Nat.le_trans HBA.out.size B4.size) _).grown hgrow (Nat.le_trans (Nat.le_trans HBA.out.size B4.size) alloc_b.size) (fun g hg => by have := (RO4.out.st.lt g hg).1; have := HLB.out; omega))
      clear hown hgrow hat hlt RO4 HROA HSA I1 I2 B4 h82' HBA HB
      go_wp2
      have HP5 : Hid (Rp c w5.drew rb nb B k k (upN P k (.slice ar lr cr)) (upN Q k (.slice av lv cv)) (.slice (some ⟨g3, 0, none⟩) (k + 1) cp3) ul) := HPA.out.next (below_drew (Below.refl _ _))
      have HBW : Hid (Below (w.alloc (.cells #[.slice none 0 0, .slice none 0 0] 65)).heap.size (w.alloc (.cells #[.slice none 0 0, .slice none 0 0] 65)) w5.drew) := below_drew HB5.out
      generalize hWW : w5.drew = W5 at HP5 HBW
      refine wp_region_held_drew (S := fun _ => True) (by kernel_rfl) trivial (fun hH => ?_)
      rw [hWW]
      clear hWW
      refine wpAnyH_take (i := 0) (oi := { dst := some 40, op := Op.fieldAddr 65 (Operand.tmp 4) 0, type := 0, pos := "l14_schedule.go:152", after := #[], guard := none }) (v := .pointer (some ⟨rb, 0, none⟩)) rfl (by kernel_rfl) (by kernel_rfl) (by kernel_rfl) (fun _ _ _ h => h) (Or.inl ⟨by rfl, fun w0 hSw => by (go_simp)⟩) hH ?_
      simp only [Act.put, List.setIfInBounds_toArray, List.set_cons_zero, List.set_cons_succ]
      refine wpAnyH_take (i := 2) (oi := { dst := some 42, op := Op.move (Operand.tmp 5), type := 99, pos := "l14_schedule.go:152", after := #[], guard := none }) (v := .slice (some ⟨g3, 0, none⟩) (k + 1) cp3) rfl (by kernel_rfl) (by kernel_rfl) (by kernel_rfl) (fun _ _ _ h => h) (Or.inl ⟨by rfl, fun w0 hSw => by (go_simp)⟩) hH ?_
      simp only [Act.put, List.setIfInBounds_toArray, List.set_cons_zero, List.set_cons_succ]
      refine wpAnyH_take (i := 3) (oi := { dst := some 43, op := Op.move (Operand.tmp 6), type := 3, pos := "l14_schedule.go:152", after := #[], guard := none }) (v := .int .i64 (k : Int)) rfl (by kernel_rfl) (by kernel_rfl) (by kernel_rfl) (fun _ _ _ h => h) (Or.inl ⟨by rfl, fun w0 hSw => by (go_simp)⟩) hH ?_
      simp only [Act.put, List.setIfInBounds_toArray, List.set_cons_zero, List.set_cons_succ]
      refine wpAnyH_take (i := 4) (oi := { dst := some 44, op := Op.indexAddr 99 (Operand.tmp 42) (Operand.tmp 43), type := 0, pos := "l14_schedule.go:152", after := #[{ on := 2, ground := Ground.data }, { on := 3, ground := Ground.data }], guard := none }) (v := .pointer (some ⟨g3, k * 9, none⟩)) rfl (by kernel_rfl) (by kernel_rfl) (by kernel_rfl) (fun _ _ _ h => h) (Or.inl ⟨by rfl, fun w0 hSw => by ((have k9 : ¬ (k : Int) + 1 ≤ (k : Int) := by omega); go_simp)⟩) hH ?_
      simp only [Act.put, List.setIfInBounds_toArray, List.set_cons_zero, List.set_cons_succ]
      refine wpAnyH_take (i := 5) (oi := { dst := some 45, op := Op.fieldAddr 101 (Operand.tmp 44) 3, type := 0, pos := "l14_schedule.go:152", after := #[{ on := 4, ground := Ground.data }], guard := none }) (v := .pointer (some ⟨g3, k * 9 + 8, none⟩)) rfl (by kernel_rfl) (by kernel_rfl) (by kernel_rfl) (fun _ _ _ h => h) (Or.inl ⟨by rfl, fun w0 hSw => by (go_simp)⟩) hH ?_
      simp only [Act.put, List.setIfInBounds_toArray, List.set_cons_zero, List.set_cons_succ]
      refine wpAnyH_ready (rs := [1, 6]) (by kernel_rfl) (by simp) ?_
      refine (AllReadyH.cons (o := { dst := some 41, op := Op.load 45 (Operand.tmp 40), type := 45, pos := "l14_schedule.go:152", after := #[{ on := 0, ground := Ground.data }], guard := none }) rfl (fun K hK => ?_) (AllReadyH.cons (o := { dst := some 46, op := Op.load 3 (Operand.tmp 45), type := 3, pos := "l14_schedule.go:152", after := #[{ on := 5, ground := Ground.data }], guard := none }) rfl (fun K hK => ?_) AllReadyH.nil))
      · refine step_val ul W5 (by rfl) (by have h1 := HP5.out.c0; go_simp) ?_
        simp only [Act.put, List.setIfInBounds_toArray, List.set_cons_zero, List.set_cons_succ]
        refine hK.out _ _ trivial (fun hH' => ?_)
        clear hK K hH'
        refine wpAnyH_ready (rs := [6]) (by kernel_rfl) (by simp) ?_
        refine (AllReadyH.cons (o := { dst := some 46, op := Op.load 3 (Operand.tmp 45), type := 3, pos := "l14_schedule.go:152", after := #[{ on := 5, ground := Ground.data }], guard := none }) rfl (fun K hK => ?_) AllReadyH.nil)
        have cl : W5.cell? ⟨g3, k * 9 + 8, none⟩ = some (.int .i64 (c.la k)) := HP5.out.cells k 8 (by omega) (by omega)
        refine step_val (.int .i64 (c.la k)) W5 (by rfl) (by go_simp) ?_
        simp only [Act.put, List.setIfInBounds_toArray, List.set_cons_zero, List.set_cons_succ]
        refine hK.out _ _ trivial (fun hH' => ?_)
        clear hK K hH' cl
        refine wpAnyH_ready (rs := [7]) (by kernel_rfl) (by simp) ?_
        refine (AllReadyH.cons (o := { dst := some 47, op := Op.buildSlice 45 1 #[(0, Operand.tmp 46)], type := 45, pos := "l14_schedule.go:152", after := #[{ on := 6, ground := Ground.data }], guard := none }) rfl (fun K hK => ?_) AllReadyH.nil)
        refine step_val (.slice (some ⟨W5.heap.size, 0, none⟩) 1 1) (W5.alloc (.cells #[.int .i64 (c.la k)] 3)) (by rfl) (by go_simp) ?_
        simp only [Act.put, List.setIfInBounds_toArray, List.set_cons_zero, List.set_cons_succ]
        refine hK.out _ _ trivial (fun hH' => ?_)
        clear hK K hH'
        have HP6 : Hid (Rp c (W5.alloc (.cells #[.int .i64 (c.la k)] 3)) rb nb B k k (upN P k (.slice ar lr cr)) (upN Q k (.slice av lv cv)) (.slice (some ⟨g3, 0, none⟩) (k + 1) cp3) ul) := HP5.out.next alloc_b
        refine wpAnyH_ready (rs := [8]) (by kernel_rfl) (by simp) ?_
        refine (AllReadyH.cons (o := { dst := some 48, op := Op.call { callee := Callee.builtin Builtin.append, args := #[Operand.tmp 41, Operand.tmp 47], argTypes := #[45, 45] }, type := 45, pos := "l14_schedule.go:152", after := #[{ on := 1, ground := Ground.data }, { on := 7, ground := Ground.data }], guard := none }) rfl (fun K hK => ?_) AllReadyH.nil)
        refine step_append_lies _ (by rfl) (.tmp 41) (.tmp 47) 45 (by rfl) B 3 i3 (.int .i64 0) 1 8 Tryd.underlying45 hi3 hz30 hz31 hz32 rfl (by decide) ul k (il (c.ll k)) (by rfl) (by have h1 := HP6.out.la.1; rw [c.ll_len] at h1; exact h1) ⟨W5.heap.size, 0, none⟩ 1 1 [.int .i64 (c.la k)] (by rfl) rfl (one_new (c.la k)) (one_one (c.la k)) (by decide) (by unfold maxLen; omega) (by omega) HP6.out.fx.hs _ rfl ?_
        intro g4 cp4 w7 hown4 hgrow4 hat4 hlt4
        simp only [Act.put, List.setIfInBounds_toArray, List.set_cons_zero, List.set_cons_succ]
        refine hK.out _ _ trivial (fun hH' => ?_)
        clear hK K hH'
        have zr7 := hgrow4.block rb (by have := HP6.out.fx.hs; have := HP6.out.fx.hr; omega) (fun e => by have := (HP6.out.la.lt rb e.symm).1; have := HP6.out.fx.hr; omega)
        have c7 : w7.cell? ⟨rb, 0, none⟩ = some ul := (World.cell?_of_block (a := ⟨rb, 0, none⟩) zr7).trans HP6.out.c0
        have f7 : w7.frozen? ⟨rb, 0, none⟩ = false := (World.frozen?_of_block (a := ⟨rb, 0, none⟩) zr7).trans (HP6.out.fx.fr 0)
        refine wpAnyH_take (i := 9) (oi := { dst := some 49, op := Op.fieldAddr 65 (Operand.tmp 4) 0, type := 0, pos := "l14_schedule.go:152", after := #[{ on := 0, ground := Ground.phase }, { on := 1, ground := Ground.phase }, { on := 2, ground := Ground.phase }, { on := 3, ground := Ground.phase }, { on := 4, ground := Ground.phase }, { on := 5, ground := Ground.phase }, { on := 6, ground := Ground.phase }, { on := 7, ground := Ground.phase }, { on := 8, ground := Ground.phase }], guard := none }) (v := .pointer (some ⟨rb, 0, none⟩)) rfl (by kernel_rfl) (by kernel_rfl) (by kernel_rfl) (fun _ _ _ h => h) (Or.inl ⟨by rfl, fun w0 hSw => by (go_simp)⟩) hH ?_
        simp only [Act.put, List.setIfInBounds_toArray, List.set_cons_zero, List.set_cons_succ]
        refine wpAnyH_ready (rs := [10]) (by kernel_rfl) (by simp) ?_
        refine (AllReadyH.cons (o := { dst := none, op := Op.store 45 (Operand.tmp 49) (Operand.tmp 48), type := 0, pos := "l14_schedule.go:152", after := #[{ on := 9, ground := Ground.data }, { on := 8, ground := Ground.data }, { on := 8, ground := Ground.chain }, { on := 0, ground := Ground.phase }, { on := 1, ground := Ground.phase }, { on := 2, ground := Ground.phase }, { on := 3, ground := Ground.phase }, { on := 4, ground := Ground.phase }, { on := 5, ground := Ground.phase }, { on := 6, ground := Ground.phase }, { on := 7, ground := Ground.phase }, { on := 8, ground := Ground.phase }], guard := none }) rfl (fun K hK => ?_) AllReadyH.nil)
        have HPB : Hid (Rp c (w7.setCell ⟨rb, 0, none⟩ (.slice (some ⟨g4, 0, none⟩) (k + 1) cp4)) rb nb B k (k + 1) (upN P k (.slice ar lr cr)) (upN Q k (.slice av lv cv)) (.slice (some ⟨g3, 0, none⟩) (k + 1) cp3) (.slice (some ⟨g4, 0, none⟩) (k + 1) cp4)) := HP6.out.stepB hown4 hgrow4 hat4
        have HBB : Hid (Below (w.alloc (.cells #[.slice none 0 0, .slice none 0 0] 65)).heap.size (w.alloc (.cells #[.slice none 0 0, .slice none 0 0] 65)) (w7.setCell ⟨rb, 0, none⟩ (.slice (some ⟨g4, 0, none⟩) (k + 1) cp4))) := ((HBW.out.trans ((show Below W5.heap.size W5 (W5.alloc (.cells #[.int .i64 (c.la k)] 3)) from alloc_b).mono HBW.out.size)).grown hgrow4 (by have := HBW.out.size; have := (show Below W5.heap.size W5 (W5.alloc (.cells #[.int .i64 (c.la k)] 3)) from alloc_b).size; omega) (fun g hg => by have := (HP6.out.la.lt g hg).1; have := HLB.out; omega)).setCell (p := ⟨rb, 0, none⟩) (by have := HLR.out; show _ ≤ rb; omega) _
        refine step_skip (w7.setCell ⟨rb, 0, none⟩ (.slice (some ⟨g4, 0, none⟩) (k + 1) cp4)) (by rfl) (by go_simp) ?_
        refine hK.out _ _ trivial (fun hH' => ?_)
        clear hK K hH' 
        refine wpAnyH_done (by kernel_rfl) ?_ _
        clear HPA
        obtain ⟨wB, hwB⟩ : ∃ wB, w7.setCell ⟨rb, 0, none⟩ (.slice (some ⟨g4, 0, none⟩) (k + 1) cp4) = wB := ⟨_, rfl⟩
        rw [hwB] at HPB HBB ⊢
        clear hwB hown4 hgrow4 hat4 hlt4 zr7 c7 f7
        have NP0 : Hid (Np B wB nb n k wB.heap.size c.np (.slice none 0 0) (c.npk k 0)) := by have := HPB.out.begin hkc; rw [HN.out] at this; exact this
        have BN0 : Hid (Bn wB.heap.size nb wB wB) := Bn.refl _ _ _
        obtain ⟨b0, hb0⟩ : ∃ b0, wB.heap.size = b0 := ⟨_, rfl⟩
        have HB0 : Hid (wB.heap.size = b0) := hb0
        have HLb : Hid (rb < b0) := by have := HPB.out.fx.hs; have := HPB.out.fx.hr; show _ < _; omega
        have HG3 : Hid (g3 < b0 ∧ g3 ≠ nb) := by have h1 := HPB.out.st.lt g3 rfl; have h2 := HPB.out.fx.nq.hB; exact ⟨by omega, by omega⟩
        rw [hb0] at NP0 BN0
        clear hb0
        have cpk : k + 1 ≤ cp3 := by
          rcases HPB.out.st.2 with ⟨h1, _⟩ | ⟨_, _, _, h1, _, _, h4, _⟩
          · cases h1
          · injection h1 with _ _ h1
            omega
        have cp0 : (k : Int) ≤ (cp3 : Int) := by omega
        have cpn : ¬ cp3 = 0 := by omega
        go_wp2
        go_loopw [54] (fun i wx => ∃ (q : Nat) (x : Value), q ≤ k ∧ i = .int .i64 q ∧ Hid (Np B wx nb n k b0 c.np x (c.npk k q)) ∧ Hid (Bn b0 nb wB wx) ∧ Hid (∀ z, z < k → wx.cell? ⟨nb, z, none⟩ = wB.cell? ⟨nb, z, none⟩) ∧ Hid (Below (w.alloc (.cells #[.slice none 0 0, .slice none 0 0] 65)).heap.size (w.alloc (.cells #[.slice none 0 0, .slice none 0 0] 65)) wx)) (fun i _ => k - (intOf i).toNat)
        case atStart => exact ⟨0, _, Nat.zero_le _, rfl, NP0, BN0, fun _ _ => rfl, HBB⟩
        case round =>
          obtain ⟨q, x, hq, rfl, NPW, BNW, OLW, HBX⟩ := hrel
          clear NP0 BN0
          by_cases hqk : q < k
          · have q1 : (q : Int) < (k : Int) := by omega
            have q0 : (0 : Int) ≤ (q : Int) := by omega
            have k9 : ¬ (k : Int) + 1 ≤ (k : Int) := by omega
            have hqc : q < c.n := by omega
            have x0 : wr.cell? ⟨g3, q * 9, none⟩ = some (.int .i64 (c.O q)) := BNW.out.cell (HPB.out.cells q 0 (by omega) (by omega)) HG3.out.1 HG3.out.2
            have x1 : wr.cell? ⟨g3, q * 9 + 1, none⟩ = some (.int .i64 (c.D q)) := BNW.out.cell (HPB.out.cells q 1 (by omega) (by omega)) HG3.out.1 HG3.out.2
            have x2 : wr.cell? ⟨g3, q * 9 + 2, none⟩ = some (.int .i64 (c.A q)) := BNW.out.cell (HPB.out.cells q 2 (by omega) (by omega)) HG3.out.1 HG3.out.2
            have x3 : wr.cell? ⟨g3, q * 9 + 3, none⟩ = some (.int .i64 (c.B q)) := BNW.out.cell (HPB.out.cells q 3 (by omega) (by omega)) HG3.out.1 HG3.out.2
            have x4 : wr.cell? ⟨g3, q * 9 + 4, none⟩ = some (.int .i64 (c.C q)) := BNW.out.cell (HPB.out.cells q 4 (by omega) (by omega)) HG3.out.1 HG3.out.2
            have x5 : wr.cell? ⟨g3, q * 9 + 5, none⟩ = some (.int .u32 (c.X q)) := BNW.out.cell (HPB.out.cells q 5 (by omega) (by omega)) HG3.out.1 HG3.out.2
            have x6 : wr.cell? ⟨g3, q * 9 + 6, none⟩ = some (upN P k (.slice ar lr cr) q) := BNW.out.cell (HPB.out.cells q 6 (by omega) (by omega)) HG3.out.1 HG3.out.2
            have x7 : wr.cell? ⟨g3, q * 9 + 7, none⟩ = some (upN Q k (.slice av lv cv) q) := BNW.out.cell (HPB.out.cells q 7 (by omega) (by omega)) HG3.out.1 HG3.out.2
            have x8 : wr.cell? ⟨g3, q * 9 + 8, none⟩ = some (.int .i64 (c.la q)) := BNW.out.cell (HPB.out.cells q 8 (by omega) (by omega)) HG3.out.1 HG3.out.2
            have y0 : wr.cell? ⟨g3, k * 9, none⟩ = some (.int .i64 (c.O k)) := BNW.out.cell ((HPB.out.cells k 0 (by omega) (by omega)).trans (by simp [Rc.s9, upN_at])) HG3.out.1 HG3.out.2
            have y1 : wr.cell? ⟨g3, k * 9 + 1, none⟩ = some (.int .i64 (c.D k)) := BNW.out.cell ((HPB.out.cells k 1 (by omega) (by omega)).trans (by simp [Rc.s9, upN_at])) HG3.out.1 HG3.out.2
            have y2 : wr.cell? ⟨g3, k * 9 + 2, none⟩ = some (.int .i64 (c.A k)) := BNW.out.cell ((HPB.out.cells k 2 (by omega) (by omega)).trans (by simp [Rc.s9, upN_at])) HG3.out.1 HG3.out.2
            have y3 : wr.cell? ⟨g3, k * 9 + 3, none⟩ = some (.int .i64 (c.B k)) := BNW.out.cell ((HPB.out.cells k 3 (by omega) (by omega)).trans (by simp [Rc.s9, upN_at])) HG3.out.1 HG3.out.2
            have y4 : wr.cell? ⟨g3, k * 9 + 4, none⟩ = some (.int .i64 (c.C k)) := BNW.out.cell ((HPB.out.cells k 4 (by omega) (by omega)).trans (by simp [Rc.s9, upN_at])) HG3.out.1 HG3.out.2
            have y5 : wr.cell? ⟨g3, k * 9 + 5, none⟩ = some (.int .u32 (c.X k)) := BNW.out.cell ((HPB.out.cells k 5 (by omega) (by omega)).trans (by simp [Rc.s9, upN_at])) HG3.out.1 HG3.out.2
            have y6 : wr.cell? ⟨g3, k * 9 + 6, none⟩ = some (.slice ar lr cr) := BNW.out.cell ((HPB.out.cells k 6 (by omega) (by omega)).trans (by simp [Rc.s9, upN_at])) HG3.out.1 HG3.out.2
            have y7 : wr.cell? ⟨g3, k * 9 + 7, none⟩ = some (.slice av lv cv) := BNW.out.cell ((HPB.out.cells k 7 (by omega) (by omega)).trans (by simp [Rc.s9, upN_at])) HG3.out.1 HG3.out.2
            have y8 : wr.cell? ⟨g3, k * 9 + 8, none⟩ = some (.int .i64 (c.la k)) := BNW.out.cell ((HPB.out.cells k 8 (by omega) (by omega)).trans (by simp [Rc.s9, upN_at])) HG3.out.1 HG3.out.2
            have HR1 : Hid (∀ v, Below wr.heap.size wr v → ARow v (upN P k (.slice ar lr cr) q) (srt (opsL (c.O q) (c.A q) (c.B q) (c.C q) (c.X q))) ∧ ARow v (upN Q k (.slice av lv cv) q) (wrL (c.O q) (c.D q)) ∧ ARow v (.slice ar lr cr) (srt (opsL (c.O k) (c.A k) (c.B k) (c.C k) (c.X k))) ∧ ARow v (.slice av lv cv) (wrL (c.O k) (c.D k))) := fun v bv => by
              have hB0 := HB0.out
              have a1 := (BNW.out.iown (HPB.out.fx.rd q (by omega)) HPB.out.fx.nq.hB (by omega)).next' bv
              have a2 := (BNW.out.iown (HPB.out.fx.wr q (by omega)) HPB.out.fx.nq.hB (by omega)).next' bv
              have a3 := (BNW.out.iown (HPB.out.fx.rd k (by omega)) HPB.out.fx.nq.hB (by omega)).next' bv
              have a4 := (BNW.out.iown (HPB.out.fx.wr k (by omega)) HPB.out.fx.nq.hB (by omega)).next' bv
              rw [upN_at] at a3 a4
              exact ⟨a1.arow, a2.arow, a3.arow, a4.arow⟩
            generalize hPq : upN P k (.slice ar lr cr) q = pq at x6 HR1
            generalize hQq : upN Q k (.slice av lv cv) q = qq at x7 HR1
            clear hPq hQq
            obtain ⟨⟨pa, pc, rfl, _⟩, ⟨qa, qc, rfl, _⟩, _, _⟩ := HR1.out wr (Below.refl _ _)
            generalize (srt (opsL (c.O q) (c.A q) (c.B q) (c.C q) (c.X q))).length = pl at *
            generalize (wrL (c.O q) (c.D q)).length = ql at *
            have h83 : ∀ v, Below wr.heap.size wr v → Calls Tryd.prog 83 #[.agg #[.int .i64 (c.O k), .int .i64 (c.D k), .int .i64 (c.A k), .int .i64 (c.B k), .int .i64 (c.C k), .int .u32 (c.X k), .slice ar lr cr, .slice av lv cv, .int .i64 (c.la k)], .agg #[.int .i64 (c.O q), .int .i64 (c.D q), .int .i64 (c.A q), .int .i64 (c.B q), .int .i64 (c.C q), .int .u32 (c.X q), .slice pa pl pc, .slice qa ql qc, .int .i64 (c.la q)]] v fun e w' => e = .returned (.int .i64 (if c.nd q k then c.wa q k else 0)) ∧ Below v.heap.size v w' := fun v bv => by
              rw [← wz_nd]
              obtain ⟨a1, a2, a3, a4⟩ := HR1.out v bv
              exact waitfor _ _ _ _ _ _ _ _ _ _ _ _ _ _ _ _ _ v a1 a2 a3 a4
            have y0' : (wr.alloc (.cells #[.int .i64 (c.O q), .int .i64 (c.D q), .int .i64 (c.A q), .int .i64 (c.B q), .int .i64 (c.C q), .int .u32 (c.X q), .slice pa pl pc, .slice qa ql qc, .int .i64 (c.la q)] 101)).cell? ⟨g3, k * 9, none⟩ = _ := cell_nx y0 alloc_b
            have y1' : (wr.alloc (.cells #[.int .i64 (c.O q), .int .i64 (c.D q), .int .i64 (c.A q), .int .i64 (c.B q), .int .i64 (c.C q), .int .u32 (c.X q), .slice pa pl pc, .slice qa ql qc, .int .i64 (c.la q)] 101)).cell? ⟨g3, k * 9 + 1, none⟩ = _ := cell_nx y1 alloc_b
            have y2' : (wr.alloc (.cells #[.int .i64 (c.O q), .int .i64 (c.D q), .int .i64 (c.A q), .int .i64 (c.B q), .int .i64 (c.C q), .int .u32 (c.X q), .slice pa pl pc, .slice qa ql qc, .int .i64 (c.la q)] 101)).cell? ⟨g3, k * 9 + 2, none⟩ = _ := cell_nx y2 alloc_b
            have y3' : (wr.alloc (.cells #[.int .i64 (c.O q), .int .i64 (c.D q), .int .i64 (c.A q), .int .i64 (c.B q), .int .i64 (c.C q), .int .u32 (c.X q), .slice pa pl pc, .slice qa ql qc, .int .i64 (c.la q)] 101)).cell? ⟨g3, k * 9 + 3, none⟩ = _ := cell_nx y3 alloc_b
            have y4' : (wr.alloc (.cells #[.int .i64 (c.O q), .int .i64 (c.D q), .int .i64 (c.A q), .int .i64 (c.B q), .int .i64 (c.C q), .int .u32 (c.X q), .slice pa pl pc, .slice qa ql qc, .int .i64 (c.la q)] 101)).cell? ⟨g3, k * 9 + 4, none⟩ = _ := cell_nx y4 alloc_b
            have y5' : (wr.alloc (.cells #[.int .i64 (c.O q), .int .i64 (c.D q), .int .i64 (c.A q), .int .i64 (c.B q), .int .i64 (c.C q), .int .u32 (c.X q), .slice pa pl pc, .slice qa ql qc, .int .i64 (c.la q)] 101)).cell? ⟨g3, k * 9 + 5, none⟩ = _ := cell_nx y5 alloc_b
            have y6' : (wr.alloc (.cells #[.int .i64 (c.O q), .int .i64 (c.D q), .int .i64 (c.A q), .int .i64 (c.B q), .int .i64 (c.C q), .int .u32 (c.X q), .slice pa pl pc, .slice qa ql qc, .int .i64 (c.la q)] 101)).cell? ⟨g3, k * 9 + 6, none⟩ = _ := cell_nx y6 alloc_b
            have y7' : (wr.alloc (.cells #[.int .i64 (c.O q), .int .i64 (c.D q), .int .i64 (c.A q), .int .i64 (c.B q), .int .i64 (c.C q), .int .u32 (c.X q), .slice pa pl pc, .slice qa ql qc, .int .i64 (c.la q)] 101)).cell? ⟨g3, k * 9 + 7, none⟩ = _ := cell_nx y7 alloc_b
            have y8' : (wr.alloc (.cells #[.int .i64 (c.O q), .int .i64 (c.D q), .int .i64 (c.A q), .int .i64 (c.B q), .int .i64 (c.C q), .int .u32 (c.X q), .slice pa pl pc, .slice qa ql qc, .int .i64 (c.la q)] 101)).cell? ⟨g3, k * 9 + 8, none⟩ = _ := cell_nx y8 alloc_b
            clear y0 y1 y2 y3 y4 y5 y6 y7 y8
            have hwa := c.wa_pos q k
            have HW0 : Hid (c.npk k (q + 1) = c.npk k q ++ (if c.nd q k then [((q : Int), c.wa q k)] else [])) := rfl
            clear HR1
            generalize c.nd q k = bb at h83 HW0
            cases bb
            · have HW : Hid (c.npk k (q + 1) = c.npk k q) := by have := HW0.out; show _ = _; rw [this]; simp
              simp only [Bool.false_eq_true, if_false] at h83
              go_wp2
              go_region_with (go_at_call 83; refine (h83 _ ?_).mono ?_; (focus (first | exact alloc_b | exact (alloc_b (v := wr)).trans (below_drew (Below.refl _ _)) | exact below_drew alloc_b)); rintro e w9 ⟨rfl, b9⟩; (have B9 : Below wr.heap.size wr w9 := by first | exact (alloc_b (v := wr)).trans (b9.mono (alloc_b (v := wr)).size) | exact (below_drew (alloc_b (v := wr))).trans (b9.mono (below_drew (alloc_b (v := wr))).size)); clear b9)
              all_goals
                have NPN : Hid (Np B w9 nb n k b0 c.np x (c.npk k (q + 1))) := by show Np _ _ _ _ _ _ _ _ _; rw [HW.out]; exact NPW.out.next B9
                have BNN : Hid (Bn b0 nb wB w9) := BNW.out.below B9 NPW.out.ri.2
                have OLN : Hid (∀ z, z < k → w9.cell? ⟨nb, z, none⟩ = wB.cell? ⟨nb, z, none⟩) := fun z hz => (B9.cell (p := ⟨nb, z, none⟩) NPW.out.hq).trans (OLW.out z hz)
                have BWN : Hid (Below (w.alloc (.cells #[.slice none 0 0, .slice none 0 0] 65)).heap.size (w.alloc (.cells #[.slice none 0 0, .slice none 0 0] 65)) w9) := HBX.out.trans (B9.mono HBX.out.size)
                clear NPW BNW OLW HBX
                go_wp2
                go_roundw
                case rel => exact ⟨q + 1, _, by omega, by go_num, NPN, BNN, OLN, BWN⟩
                case measure => simp [intOf]; omega
            · have HW : Hid (c.npk k (q + 1) = c.npk k q ++ [((q : Int), c.wa q k)]) := by have := HW0.out; show _ = _; rw [this]; simp
              simp only [if_true] at h83
              have wp0 : (0 : Int) < c.wa q k := by omega
              go_wp2
              go_region_with (go_at_call 83; refine (h83 _ ?_).mono ?_; (focus (first | exact alloc_b | exact (alloc_b (v := wr)).trans (below_drew (Below.refl _ _)) | exact below_drew alloc_b)); rintro e w9 ⟨rfl, b9⟩; (have B9 : Below wr.heap.size wr w9 := by first | exact (alloc_b (v := wr)).trans (b9.mono (alloc_b (v := wr)).size) | exact (below_drew (alloc_b (v := wr))).trans (b9.mono (below_drew (alloc_b (v := wr))).size)); clear b9)
              all_goals
                have B9d : Below wr.heap.size wr w9.drew := below_drew B9
                have NPd := Hid.mk (NPW.out.next B9d)
                have BNd := Hid.mk (BNW.out.below B9d NPW.out.ri.2)
                have OLd : Hid (∀ z, z < k → w9.drew.cell? ⟨nb, z, none⟩ = wB.cell? ⟨nb, z, none⟩) := fun z hz => (B9d.cell (p := ⟨nb, z, none⟩) NPW.out.hq).trans (OLW.out z hz)
                have HBd : Hid (Below (w.alloc (.cells #[.slice none 0 0, .slice none 0 0] 65)).heap.size (w.alloc (.cells #[.slice none 0 0, .slice none 0 0] 65)) w9.drew) := HBX.out.trans (B9d.mono HBX.out.size)
                have hH0 : w9.drew.cell? ⟨rb, 1, none⟩ = some (.slice (some ⟨nb, 0, none⟩) n n) := by have := BNd.out.cell HPB.out.fx.c1 HLb.out HPB.out.fx.ne; rw [HN.out] at this; exact this
                clear NPW BNW OLW HBX B9 B9d x0 y0' x1 y1' x2 y2' x3 y3' x4 y4' x5 y5' x6 y6' x7 y7' x8 y8'
                go_wp2
                generalize hWW : w9.drew = W9 at NPd BNd OLd HBd hH0
                refine wp_region_held_drew (S := fun v => v.cell? ⟨rb, 1, none⟩ = some (.slice (some ⟨nb, 0, none⟩) n n)) (by kernel_rfl) (by rw [hWW]; exact hH0) (fun hH => ?_)
                rw [hWW] at hH ⊢
                clear hWW hH0
                have NP1 := NPd
                have NPW := NPd
                have BNW := BNd
                have OLW := OLd
                have HBW9 := HBd
                clear NPd BNd OLd HBd
                refine wpAnyH_take (i := 0) (oi := { dst := some 67, op := Op.fieldAddr 65 (Operand.tmp 4) 1, type := 0, pos := "l14_schedule.go:155", after := #[], guard := none }) (v := .pointer (some ⟨rb, 1, none⟩)) rfl (by kernel_rfl) (by kernel_rfl) (by kernel_rfl) (fun _ _ _ h => h) (Or.inl ⟨by rfl, fun w0 hSw => by (go_simp)⟩) hH ?_
                simp only [Act.put, List.setIfInBounds_toArray, List.set_cons_zero, List.set_cons_succ]
                refine wpAnyH_take (i := 1) (oi := { dst := some 68, op := Op.load 63 (Operand.tmp 67), type := 63, pos := "l14_schedule.go:155", after := #[{ on := 0, ground := Ground.data }], guard := none }) (v := .slice (some ⟨nb, 0, none⟩) n n) rfl (by kernel_rfl) (by kernel_rfl) (by kernel_rfl) (fun _ _ _ h => h) (Or.inl ⟨by rfl, fun w0 hSw => by ((have h1 : w0.cell? ⟨rb, 1, none⟩ = some (.slice (some ⟨nb, 0, none⟩) n n) := hSw); go_simp)⟩) hH ?_
                simp only [Act.put, List.setIfInBounds_toArray, List.set_cons_zero, List.set_cons_succ]
                refine wpAnyH_take (i := 2) (oi := { dst := some 69, op := Op.move (Operand.tmp 6), type := 3, pos := "l14_schedule.go:155", after := #[], guard := none }) (v := .int .i64 (k : Int)) rfl (by kernel_rfl) (by kernel_rfl) (by kernel_rfl) (fun _ _ _ h => h) (Or.inl ⟨by rfl, fun w0 hSw => by (go_simp)⟩) hH ?_
                simp only [Act.put, List.setIfInBounds_toArray, List.set_cons_zero, List.set_cons_succ]
                refine wpAnyH_take (i := 3) (oi := { dst := some 70, op := Op.fieldAddr 65 (Operand.tmp 4) 1, type := 0, pos := "l14_schedule.go:155", after := #[], guard := none }) (v := .pointer (some ⟨rb, 1, none⟩)) rfl (by kernel_rfl) (by kernel_rfl) (by kernel_rfl) (fun _ _ _ h => h) (Or.inl ⟨by rfl, fun w0 hSw => by (go_simp)⟩) hH ?_
                simp only [Act.put, List.setIfInBounds_toArray, List.set_cons_zero, List.set_cons_succ]
                refine wpAnyH_take (i := 4) (oi := { dst := some 71, op := Op.load 63 (Operand.tmp 70), type := 63, pos := "l14_schedule.go:155", after := #[{ on := 3, ground := Ground.data }], guard := none }) (v := .slice (some ⟨nb, 0, none⟩) n n) rfl (by kernel_rfl) (by kernel_rfl) (by kernel_rfl) (fun _ _ _ h => h) (Or.inl ⟨by rfl, fun w0 hSw => by ((have h1 : w0.cell? ⟨rb, 1, none⟩ = some (.slice (some ⟨nb, 0, none⟩) n n) := hSw); go_simp)⟩) hH ?_
                simp only [Act.put, List.setIfInBounds_toArray, List.set_cons_zero, List.set_cons_succ]
                refine wpAnyH_take (i := 5) (oi := { dst := some 72, op := Op.move (Operand.tmp 6), type := 3, pos := "l14_schedule.go:155", after := #[], guard := none }) (v := .int .i64 (k : Int)) rfl (by kernel_rfl) (by kernel_rfl) (by kernel_rfl) (fun _ _ _ h => h) (Or.inl ⟨by rfl, fun w0 hSw => by (go_simp)⟩) hH ?_
                simp only [Act.put, List.setIfInBounds_toArray, List.set_cons_zero, List.set_cons_succ]
                refine wpAnyH_take (i := 6) (oi := { dst := some 73, op := Op.indexAddr 63 (Operand.tmp 71) (Operand.tmp 72), type := 0, pos := "l14_schedule.go:155", after := #[{ on := 4, ground := Ground.data }, { on := 5, ground := Ground.data }], guard := none }) (v := .pointer (some ⟨nb, k, none⟩)) rfl (by kernel_rfl) (by kernel_rfl) (by kernel_rfl) (fun _ _ _ h => h) (Or.inl ⟨by rfl, fun w0 hSw => by (go_simp)⟩) hH ?_
                simp only [Act.put, List.setIfInBounds_toArray, List.set_cons_zero, List.set_cons_succ]
                refine wpAnyH_take (i := 8) (oi := { dst := some 75, op := Op.move (Operand.tmp 8), type := 3, pos := "l14_schedule.go:155", after := #[], guard := none }) (v := .int .i64 (q : Int)) rfl (by kernel_rfl) (by kernel_rfl) (by kernel_rfl) (fun _ _ _ h => h) (Or.inl ⟨by rfl, fun w0 hSw => by (go_simp)⟩) hH ?_
                simp only [Act.put, List.setIfInBounds_toArray, List.set_cons_zero, List.set_cons_succ]
                refine wpAnyH_take (i := 9) (oi := { dst := some 76, op := Op.move (Operand.tmp 10), type := 3, pos := "l14_schedule.go:155", after := #[], guard := none }) (v := .int .i64 (c.wa q k)) rfl (by kernel_rfl) (by kernel_rfl) (by kernel_rfl) (fun _ _ _ h => h) (Or.inl ⟨by rfl, fun w0 hSw => by (go_simp)⟩) hH ?_
                simp only [Act.put, List.setIfInBounds_toArray, List.set_cons_zero, List.set_cons_succ]
                refine wpAnyH_take (i := 10) (oi := { dst := some 77, op := Op.build 70 #[(0, Operand.tmp 75), (1, Operand.tmp 76)], type := 70, pos := "l14_schedule.go:155", after := #[{ on := 8, ground := Ground.data }, { on := 9, ground := Ground.data }], guard := none }) (v := .agg #[.int .i64 (q : Int), .int .i64 (c.wa q k)]) rfl (by kernel_rfl) (by kernel_rfl) (by kernel_rfl) (fun _ _ _ h => h) (Or.inl ⟨by rfl, fun w0 hSw => by (go_simp)⟩) hH ?_
                simp only [Act.put, List.setIfInBounds_toArray, List.set_cons_zero, List.set_cons_succ]
                refine wpAnyH_ready (rs := [7, 11]) (by kernel_rfl) (by simp) ?_
                refine (AllReadyH.cons (o := { dst := some 74, op := Op.load 68 (Operand.tmp 73), type := 68, pos := "l14_schedule.go:155", after := #[{ on := 6, ground := Ground.data }], guard := none }) rfl (fun K hK => ?_) (AllReadyH.cons (o := { dst := some 78, op := Op.buildSlice 68 1 #[(0, Operand.tmp 77)], type := 68, pos := "l14_schedule.go:155", after := #[{ on := 10, ground := Ground.data }], guard := none }) rfl (fun K hK => ?_) AllReadyH.nil))
                · refine step_val x W9 (by rfl) (by have h1 := NP1.out.cur; go_simp) ?_
                  simp only [Act.put, List.setIfInBounds_toArray, List.set_cons_zero, List.set_cons_succ]
                  refine hK.out _ _ hH (fun hH' => ?_)
                  clear hK K
                  replace hH := hH'
                  clear hH'
                  refine wpAnyH_ready (rs := [11]) (by kernel_rfl) (by simp) ?_
                  refine (AllReadyH.cons (o := { dst := some 78, op := Op.buildSlice 68 1 #[(0, Operand.tmp 77)], type := 68, pos := "l14_schedule.go:155", after := #[{ on := 10, ground := Ground.data }], guard := none }) rfl (fun K hK => ?_) AllReadyH.nil)
                  refine step_val (.slice (some ⟨W9.heap.size, 0, none⟩) 1 1) (W9.alloc (.cells #[.int .i64 (q : Int), .int .i64 (c.wa q k)] 70)) (by rfl) (by go_simp) ?_
                  simp only [Act.put, List.setIfInBounds_toArray, List.set_cons_zero, List.set_cons_succ]
                  refine hK.out _ _ (cell_nx hH alloc_b) (fun hH' => ?_)
                  clear hK K
                  replace hH := hH'
                  clear hH'
                  have NP2 : Hid (Np B (W9.alloc (.cells #[.int .i64 (q : Int), .int .i64 (c.wa q k)] 70)) nb n k b0 c.np x (c.npk k q)) := NP1.out.next alloc_b
                  refine wpAnyH_ready (rs := [12]) (by kernel_rfl) (by simp) ?_
                  refine (AllReadyH.cons (o := { dst := some 79, op := Op.call { callee := Callee.builtin Builtin.append, args := #[Operand.tmp 74, Operand.tmp 78], argTypes := #[68, 68] }, type := 68, pos := "l14_schedule.go:155", after := #[{ on := 7, ground := Ground.data }, { on := 11, ground := Ground.data }], guard := none }) rfl (fun K hK => ?_) AllReadyH.nil)
                  refine step_append_lies _ (by rfl) (.tmp 74) (.tmp 78) 68 (by rfl) b0 70 i7 (.agg #[.int .i64 0, .int .i64 0]) 2 16 Tryd.underlying68 hi7 hz70 hz71 hz72 rfl (by decide) x _ _ (by rfl) NP2.out.ri.1 ⟨W9.heap.size, 0, none⟩ 1 1 [.int .i64 (q : Int), .int .i64 (c.wa q k)] (by rfl) rfl (two_new _ _) (two_one _ _) (by decide) (by have := c.npk_len k q; unfold maxLen; omega) (by have := c.npk_len k q; omega) NP2.out.ri.2 _ rfl ?_
                  intro g8 cp8 w12 hown8 hgrow8 hat8 hlt8
                  simp only [Act.put, List.setIfInBounds_toArray, List.set_cons_zero, List.set_cons_succ]
                  obtain ⟨c12, r12⟩ := NP2.out.keep hgrow8 k
                  rw [NP2.out.cur] at c12
                  have o12 : ∀ z, w12.cell? ⟨nb, z, none⟩ = (W9.alloc (.cells #[.int .i64 (q : Int), .int .i64 (c.wa q k)] 70)).cell? ⟨nb, z, none⟩ := fun z => (NP2.out.keep hgrow8 z).1
                  have h12 : w12.cell? ⟨rb, 1, none⟩ = some (.slice (some ⟨nb, 0, none⟩) n n) := (World.cell?_of_block (a := ⟨rb, 1, none⟩) (hgrow8.block rb (by have := NP2.out.ri.2; have := HLb.out; omega) (fun e => by have := (NP2.out.ri.lt rb e.symm).1; have := HLb.out; omega))).trans hH
                  refine hK.out _ _ h12 (fun hH' => ?_)
                  clear hK K
                  replace hH := hH'
                  clear hH' 
                  refine wpAnyH_take (i := 13) (oi := { dst := some 80, op := Op.indexAddr 63 (Operand.tmp 68) (Operand.tmp 69), type := 0, pos := "l14_schedule.go:155", after := #[{ on := 1, ground := Ground.data }, { on := 2, ground := Ground.data }, { on := 0, ground := Ground.phase }, { on := 1, ground := Ground.phase }, { on := 2, ground := Ground.phase }, { on := 3, ground := Ground.phase }, { on := 4, ground := Ground.phase }, { on := 5, ground := Ground.phase }, { on := 6, ground := Ground.phase }, { on := 7, ground := Ground.phase }, { on := 8, ground := Ground.phase }, { on := 9, ground := Ground.phase }, { on := 10, ground := Ground.phase }, { on := 11, ground := Ground.phase }, { on := 12, ground := Ground.phase }], guard := none }) (v := .pointer (some ⟨nb, k, none⟩)) rfl (by kernel_rfl) (by kernel_rfl) (by kernel_rfl) (fun _ _ _ h => h) (Or.inl ⟨by rfl, fun w0 hSw => by (go_simp)⟩) hH ?_
                  simp only [Act.put, List.setIfInBounds_toArray, List.set_cons_zero, List.set_cons_succ]
                  refine wpAnyH_ready (rs := [14]) (by kernel_rfl) (by simp) ?_
                  refine (AllReadyH.cons (o := { dst := none, op := Op.store 68 (Operand.tmp 80) (Operand.tmp 79), type := 0, pos := "l14_schedule.go:155", after := #[{ on := 13, ground := Ground.data }, { on := 12, ground := Ground.data }, { on := 12, ground := Ground.chain }, { on := 0, ground := Ground.phase }, { on := 1, ground := Ground.phase }, { on := 2, ground := Ground.phase }, { on := 3, ground := Ground.phase }, { on := 4, ground := Ground.phase }, { on := 5, ground := Ground.phase }, { on := 6, ground := Ground.phase }, { on := 7, ground := Ground.phase }, { on := 8, ground := Ground.phase }, { on := 9, ground := Ground.phase }, { on := 10, ground := Ground.phase }, { on := 11, ground := Ground.phase }, { on := 12, ground := Ground.phase }], guard := none }) rfl (fun K hK => ?_) AllReadyH.nil)
                  have U8 : Rn b0 w12 (.slice (some ⟨g8, 0, none⟩) ((c.npk k q).length + 1) cp8) (c.npk k q ++ [((q : Int), c.wa q k)]) := ⟨by rw [List.length_append, nl2_app]; exact hown8, Nat.le_trans NP2.out.ri.2 hgrow8.size⟩
                  have NPN : Hid (Np B (w12.setCell ⟨nb, k, none⟩ (.slice (some ⟨g8, 0, none⟩) ((c.npk k q).length + 1) cp8)) nb n k b0 c.np (.slice (some ⟨g8, 0, none⟩) ((c.npk k q).length + 1) cp8) (c.npk k (q + 1))) := by show Np _ _ _ _ _ _ _ _ _; rw [HW.out]; exact NP2.out.push hgrow8 U8 (fun g hg => (NP2.out.ri.lt g hg).1)
                  have BNN : Hid (Bn b0 nb wB (w12.setCell ⟨nb, k, none⟩ (.slice (some ⟨g8, 0, none⟩) ((c.npk k q).length + 1) cp8))) := ((BNW.out.below (show Below W9.heap.size W9 (W9.alloc (.cells #[.int .i64 (q : Int), .int .i64 (c.wa q k)] 70)) from alloc_b) (by have := NPW.out.ri.2; exact this)).grown hgrow8 NP2.out.ri.2 (fun g hg => (NP2.out.ri.lt g hg).1)).set k _
                  have OLN : Hid (∀ z, z < k → (w12.setCell ⟨nb, k, none⟩ (.slice (some ⟨g8, 0, none⟩) ((c.npk k q).length + 1) cp8)).cell? ⟨nb, z, none⟩ = wB.cell? ⟨nb, z, none⟩) := fun z hz => by
                    rw [World.cell?_setCell_other (h := addr_ne (by omega)), o12 z, (show Below W9.heap.size W9 (W9.alloc (.cells #[.int .i64 (q : Int), .int .i64 (c.wa q k)] 70)) from alloc_b).cell (p := ⟨nb, z, none⟩) NPW.out.hq]
                    exact OLW.out z hz
                  have BWN : Hid (Below (w.alloc (.cells #[.slice none 0 0, .slice none 0 0] 65)).heap.size (w.alloc (.cells #[.slice none 0 0, .slice none 0 0] 65)) (w12.setCell ⟨nb, k, none⟩ (.slice (some ⟨g8, 0, none⟩) ((c.npk k q).length + 1) cp8))) := ((HBW9.out.trans ((show Below W9.heap.size W9 (W9.alloc (.cells #[.int .i64 (q : Int), .int .i64 (c.wa q k)] 70)) from alloc_b).mono HBW9.out.size)).grown hgrow8 (by have := HBW9.out.size; have := (show Below W9.heap.size W9 (W9.alloc (.cells #[.int .i64 (q : Int), .int .i64 (c.wa q k)] 70)) from alloc_b).size; omega) (fun g hg => by have := (NP2.out.ri.lt g hg).1; have := HLb.out; have := HLR.out; omega)).setCell (p := ⟨nb, k, none⟩) (by have := HLN.out; show _ ≤ nb; omega) _
                  refine step_skip (w12.setCell ⟨nb, k, none⟩ (.slice (some ⟨g8, 0, none⟩) ((c.npk k q).length + 1) cp8)) (by rfl) (by go_simp) ?_
                  refine hK.out _ _ (by rw [World.cell?_setCell_other (h := addr_ne' (Ne.symm HNE.out))]; exact hH) (fun hH' => ?_)
                  clear hK K hH' 
                  refine wpAnyH_done (by kernel_rfl) ?_ _
                  clear hH U8
                  go_wp2
                  go_roundw
                  case rel => exact ⟨q + 1, _, by omega, by go_num, NPN, BNN, OLN, BWN⟩
                  case measure => simp [intOf]; omega
                · refine step_val (.slice (some ⟨W9.heap.size, 0, none⟩) 1 1) (W9.alloc (.cells #[.int .i64 (q : Int), .int .i64 (c.wa q k)] 70)) (by rfl) (by go_simp) ?_
                  simp only [Act.put, List.setIfInBounds_toArray, List.set_cons_zero, List.set_cons_succ]
                  refine hK.out _ _ (cell_nx hH alloc_b) (fun hH' => ?_)
                  clear hK K
                  replace hH := hH'
                  clear hH'
                  have NP2 : Hid (Np B (W9.alloc (.cells #[.int .i64 (q : Int), .int .i64 (c.wa q k)] 70)) nb n k b0 c.np x (c.npk k q)) := NP1.out.next alloc_b
                  refine wpAnyH_ready (rs := [7]) (by kernel_rfl) (by simp) ?_
                  refine (AllReadyH.cons (o := { dst := some 74, op := Op.load 68 (Operand.tmp 73), type := 68, pos := "l14_schedule.go:155", after := #[{ on := 6, ground := Ground.data }], guard := none }) rfl (fun K hK => ?_) AllReadyH.nil)
                  refine step_val x (W9.alloc (.cells #[.int .i64 (q : Int), .int .i64 (c.wa q k)] 70)) (by rfl) (by have h1 := NP2.out.cur; go_simp) ?_
                  simp only [Act.put, List.setIfInBounds_toArray, List.set_cons_zero, List.set_cons_succ]
                  refine hK.out _ _ hH (fun hH' => ?_)
                  clear hK K
                  replace hH := hH'
                  clear hH'
                  refine wpAnyH_ready (rs := [12]) (by kernel_rfl) (by simp) ?_
                  refine (AllReadyH.cons (o := { dst := some 79, op := Op.call { callee := Callee.builtin Builtin.append, args := #[Operand.tmp 74, Operand.tmp 78], argTypes := #[68, 68] }, type := 68, pos := "l14_schedule.go:155", after := #[{ on := 7, ground := Ground.data }, { on := 11, ground := Ground.data }], guard := none }) rfl (fun K hK => ?_) AllReadyH.nil)
                  refine step_append_lies _ (by rfl) (.tmp 74) (.tmp 78) 68 (by rfl) b0 70 i7 (.agg #[.int .i64 0, .int .i64 0]) 2 16 Tryd.underlying68 hi7 hz70 hz71 hz72 rfl (by decide) x _ _ (by rfl) NP2.out.ri.1 ⟨W9.heap.size, 0, none⟩ 1 1 [.int .i64 (q : Int), .int .i64 (c.wa q k)] (by rfl) rfl (two_new _ _) (two_one _ _) (by decide) (by have := c.npk_len k q; unfold maxLen; omega) (by have := c.npk_len k q; omega) NP2.out.ri.2 _ rfl ?_
                  intro g8 cp8 w12 hown8 hgrow8 hat8 hlt8
                  simp only [Act.put, List.setIfInBounds_toArray, List.set_cons_zero, List.set_cons_succ]
                  obtain ⟨c12, r12⟩ := NP2.out.keep hgrow8 k
                  rw [NP2.out.cur] at c12
                  have o12 : ∀ z, w12.cell? ⟨nb, z, none⟩ = (W9.alloc (.cells #[.int .i64 (q : Int), .int .i64 (c.wa q k)] 70)).cell? ⟨nb, z, none⟩ := fun z => (NP2.out.keep hgrow8 z).1
                  have h12 : w12.cell? ⟨rb, 1, none⟩ = some (.slice (some ⟨nb, 0, none⟩) n n) := (World.cell?_of_block (a := ⟨rb, 1, none⟩) (hgrow8.block rb (by have := NP2.out.ri.2; have := HLb.out; omega) (fun e => by have := (NP2.out.ri.lt rb e.symm).1; have := HLb.out; omega))).trans hH
                  refine hK.out _ _ h12 (fun hH' => ?_)
                  clear hK K
                  replace hH := hH'
                  clear hH' 
                  refine wpAnyH_take (i := 13) (oi := { dst := some 80, op := Op.indexAddr 63 (Operand.tmp 68) (Operand.tmp 69), type := 0, pos := "l14_schedule.go:155", after := #[{ on := 1, ground := Ground.data }, { on := 2, ground := Ground.data }, { on := 0, ground := Ground.phase }, { on := 1, ground := Ground.phase }, { on := 2, ground := Ground.phase }, { on := 3, ground := Ground.phase }, { on := 4, ground := Ground.phase }, { on := 5, ground := Ground.phase }, { on := 6, ground := Ground.phase }, { on := 7, ground := Ground.phase }, { on := 8, ground := Ground.phase }, { on := 9, ground := Ground.phase }, { on := 10, ground := Ground.phase }, { on := 11, ground := Ground.phase }, { on := 12, ground := Ground.phase }], guard := none }) (v := .pointer (some ⟨nb, k, none⟩)) rfl (by kernel_rfl) (by kernel_rfl) (by kernel_rfl) (fun _ _ _ h => h) (Or.inl ⟨by rfl, fun w0 hSw => by (go_simp)⟩) hH ?_
                  simp only [Act.put, List.setIfInBounds_toArray, List.set_cons_zero, List.set_cons_succ]
                  refine wpAnyH_ready (rs := [14]) (by kernel_rfl) (by simp) ?_
                  refine (AllReadyH.cons (o := { dst := none, op := Op.store 68 (Operand.tmp 80) (Operand.tmp 79), type := 0, pos := "l14_schedule.go:155", after := #[{ on := 13, ground := Ground.data }, { on := 12, ground := Ground.data }, { on := 12, ground := Ground.chain }, { on := 0, ground := Ground.phase }, { on := 1, ground := Ground.phase }, { on := 2, ground := Ground.phase }, { on := 3, ground := Ground.phase }, { on := 4, ground := Ground.phase }, { on := 5, ground := Ground.phase }, { on := 6, ground := Ground.phase }, { on := 7, ground := Ground.phase }, { on := 8, ground := Ground.phase }, { on := 9, ground := Ground.phase }, { on := 10, ground := Ground.phase }, { on := 11, ground := Ground.phase }, { on := 12, ground := Ground.phase }], guard := none }) rfl (fun K hK => ?_) AllReadyH.nil)
                  have U8 : Rn b0 w12 (.slice (some ⟨g8, 0, none⟩) ((c.npk k q).length + 1) cp8) (c.npk k q ++ [((q : Int), c.wa q k)]) := ⟨by rw [List.length_append, nl2_app]; exact hown8, Nat.le_trans NP2.out.ri.2 hgrow8.size⟩
                  have NPN : Hid (Np B (w12.setCell ⟨nb, k, none⟩ (.slice (some ⟨g8, 0, none⟩) ((c.npk k q).length + 1) cp8)) nb n k b0 c.np (.slice (some ⟨g8, 0, none⟩) ((c.npk k q).length + 1) cp8) (c.npk k (q + 1))) := by show Np _ _ _ _ _ _ _ _ _; rw [HW.out]; exact NP2.out.push hgrow8 U8 (fun g hg => (NP2.out.ri.lt g hg).1)
                  have BNN : Hid (Bn b0 nb wB (w12.setCell ⟨nb, k, none⟩ (.slice (some ⟨g8, 0, none⟩) ((c.npk k q).length + 1) cp8))) := ((BNW.out.below (show Below W9.heap.size W9 (W9.alloc (.cells #[.int .i64 (q : Int), .int .i64 (c.wa q k)] 70)) from alloc_b) (by have := NPW.out.ri.2; exact this)).grown hgrow8 NP2.out.ri.2 (fun g hg => (NP2.out.ri.lt g hg).1)).set k _
                  have OLN : Hid (∀ z, z < k → (w12.setCell ⟨nb, k, none⟩ (.slice (some ⟨g8, 0, none⟩) ((c.npk k q).length + 1) cp8)).cell? ⟨nb, z, none⟩ = wB.cell? ⟨nb, z, none⟩) := fun z hz => by
                    rw [World.cell?_setCell_other (h := addr_ne (by omega)), o12 z, (show Below W9.heap.size W9 (W9.alloc (.cells #[.int .i64 (q : Int), .int .i64 (c.wa q k)] 70)) from alloc_b).cell (p := ⟨nb, z, none⟩) NPW.out.hq]
                    exact OLW.out z hz
                  have BWN : Hid (Below (w.alloc (.cells #[.slice none 0 0, .slice none 0 0] 65)).heap.size (w.alloc (.cells #[.slice none 0 0, .slice none 0 0] 65)) (w12.setCell ⟨nb, k, none⟩ (.slice (some ⟨g8, 0, none⟩) ((c.npk k q).length + 1) cp8))) := ((HBW9.out.trans ((show Below W9.heap.size W9 (W9.alloc (.cells #[.int .i64 (q : Int), .int .i64 (c.wa q k)] 70)) from alloc_b).mono HBW9.out.size)).grown hgrow8 (by have := HBW9.out.size; have := (show Below W9.heap.size W9 (W9.alloc (.cells #[.int .i64 (q : Int), .int .i64 (c.wa q k)] 70)) from alloc_b).size; omega) (fun g hg => by have := (NP2.out.ri.lt g hg).1; have := HLb.out; have := HLR.out; omega)).setCell (p := ⟨nb, k, none⟩) (by have := HLN.out; show _ ≤ nb; omega) _
                  refine step_skip (w12.setCell ⟨nb, k, none⟩ (.slice (some ⟨g8, 0, none⟩) ((c.npk k q).length + 1) cp8)) (by rfl) (by go_simp) ?_
                  refine hK.out _ _ (by rw [World.cell?_setCell_other (h := addr_ne' (Ne.symm HNE.out))]; exact hH) (fun hH' => ?_)
                  clear hK K hH' 
                  refine wpAnyH_done (by kernel_rfl) ?_ _
                  clear hH U8
                  go_wp2
                  go_roundw
                  case rel => exact ⟨q + 1, _, by omega, by go_num, NPN, BNN, OLN, BWN⟩
                  case measure => simp [intOf]; omega
          · obtain rfl : k = q := by omega
            have q1 : ¬ (k : Int) < (k : Int) := by omega
            have RON : Hid (Ro c wr rb nb B (k + 1) (upN P k (.slice ar lr cr)) (upN Q k (.slice av lv cv)) (.slice (some ⟨g3, 0, none⟩) (k + 1) cp3) (.slice (some ⟨g4, 0, none⟩) (k + 1) cp4)) := Ro.round HPB.out.fx HPB.out.st HPB.out.la HPB.out.c0 HPB.out.su HPB.out.sl HB0.out BNW.out OLW.out (by rw [HN.out]; exact NPW.out)
            clear NPW BNW OLW HPB
            go_wp2
            go_roundw
            case rel => exact ⟨k + 1, _, _, _, _, by omega, by go_num, rfl, RON, HBX⟩
            case measure => simp [intOf]; omega

      · have cl : W5.cell? ⟨g3, k * 9 + 8, none⟩ = some (.int .i64 (c.la k)) := HP5.out.cells k 8 (by omega) (by omega)
        refine step_val (.int .i64 (c.la k)) W5 (by rfl) (by go_simp) ?_
        simp only [Act.put, List.setIfInBounds_toArray, List.set_cons_zero, List.set_cons_succ]
        refine hK.out _ _ trivial (fun hH' => ?_)
        clear hK K hH' cl
        refine wpAnyH_ready (rs := [1, 7]) (by kernel_rfl) (by simp) ?_
        refine (AllReadyH.cons (o := { dst := some 41, op := Op.load 45 (Operand.tmp 40), type := 45, pos := "l14_schedule.go:152", after := #[{ on := 0, ground := Ground.data }], guard := none }) rfl (fun K hK => ?_) (AllReadyH.cons (o := { dst := some 47, op := Op.buildSlice 45 1 #[(0, Operand.tmp 46)], type := 45, pos := "l14_schedule.go:152", after := #[{ on := 6, ground := Ground.data }], guard := none }) rfl (fun K hK => ?_) AllReadyH.nil))
        · refine step_val ul W5 (by rfl) (by have h1 := HP5.out.c0; go_simp) ?_
          simp only [Act.put, List.setIfInBounds_toArray, List.set_cons_zero, List.set_cons_succ]
          refine hK.out _ _ trivial (fun hH' => ?_)
          clear hK K hH'
          refine wpAnyH_ready (rs := [7]) (by kernel_rfl) (by simp) ?_
          refine (AllReadyH.cons (o := { dst := some 47, op := Op.buildSlice 45 1 #[(0, Operand.tmp 46)], type := 45, pos := "l14_schedule.go:152", after := #[{ on := 6, ground := Ground.data }], guard := none }) rfl (fun K hK => ?_) AllReadyH.nil)
          refine step_val (.slice (some ⟨W5.heap.size, 0, none⟩) 1 1) (W5.alloc (.cells #[.int .i64 (c.la k)] 3)) (by rfl) (by go_simp) ?_
          simp only [Act.put, List.setIfInBounds_toArray, List.set_cons_zero, List.set_cons_succ]
          refine hK.out _ _ trivial (fun hH' => ?_)
          clear hK K hH'
          have HP6 : Hid (Rp c (W5.alloc (.cells #[.int .i64 (c.la k)] 3)) rb nb B k k (upN P k (.slice ar lr cr)) (upN Q k (.slice av lv cv)) (.slice (some ⟨g3, 0, none⟩) (k + 1) cp3) ul) := HP5.out.next alloc_b
          refine wpAnyH_ready (rs := [8]) (by kernel_rfl) (by simp) ?_
          refine (AllReadyH.cons (o := { dst := some 48, op := Op.call { callee := Callee.builtin Builtin.append, args := #[Operand.tmp 41, Operand.tmp 47], argTypes := #[45, 45] }, type := 45, pos := "l14_schedule.go:152", after := #[{ on := 1, ground := Ground.data }, { on := 7, ground := Ground.data }], guard := none }) rfl (fun K hK => ?_) AllReadyH.nil)
          refine step_append_lies _ (by rfl) (.tmp 41) (.tmp 47) 45 (by rfl) B 3 i3 (.int .i64 0) 1 8 Tryd.underlying45 hi3 hz30 hz31 hz32 rfl (by decide) ul k (il (c.ll k)) (by rfl) (by have h1 := HP6.out.la.1; rw [c.ll_len] at h1; exact h1) ⟨W5.heap.size, 0, none⟩ 1 1 [.int .i64 (c.la k)] (by rfl) rfl (one_new (c.la k)) (one_one (c.la k)) (by decide) (by unfold maxLen; omega) (by omega) HP6.out.fx.hs _ rfl ?_
          intro g4 cp4 w7 hown4 hgrow4 hat4 hlt4
          simp only [Act.put, List.setIfInBounds_toArray, List.set_cons_zero, List.set_cons_succ]
          refine hK.out _ _ trivial (fun hH' => ?_)
          clear hK K hH'
          have zr7 := hgrow4.block rb (by have := HP6.out.fx.hs; have := HP6.out.fx.hr; omega) (fun e => by have := (HP6.out.la.lt rb e.symm).1; have := HP6.out.fx.hr; omega)
          have c7 : w7.cell? ⟨rb, 0, none⟩ = some ul := (World.cell?_of_block (a := ⟨rb, 0, none⟩) zr7).trans HP6.out.c0
          have f7 : w7.frozen? ⟨rb, 0, none⟩ = false := (World.frozen?_of_block (a := ⟨rb, 0, none⟩) zr7).trans (HP6.out.fx.fr 0)
          refine wpAnyH_take (i := 9) (oi := { dst := some 49, op := Op.fieldAddr 65 (Operand.tmp 4) 0, type := 0, pos := "l14_schedule.go:152", after := #[{ on := 0, ground := Ground.phase }, { on := 1, ground := Ground.phase }, { on := 2, ground := Ground.phase }, { on := 3, ground := Ground.phase }, { on := 4, ground := Ground.phase }, { on := 5, ground := Ground.phase }, { on := 6, ground := Ground.phase }, { on := 7, ground := Ground.phase }, { on := 8, ground := Ground.phase }], guard := none }) (v := .pointer (some ⟨rb, 0, none⟩)) rfl (by kernel_rfl) (by kernel_rfl) (by kernel_rfl) (fun _ _ _ h => h) (Or.inl ⟨by rfl, fun w0 hSw => by (go_simp)⟩) hH ?_
          simp only [Act.put, List.setIfInBounds_toArray, List.set_cons_zero, List.set_cons_succ]
          refine wpAnyH_ready (rs := [10]) (by kernel_rfl) (by simp) ?_
          refine (AllReadyH.cons (o := { dst := none, op := Op.store 45 (Operand.tmp 49) (Operand.tmp 48), type := 0, pos := "l14_schedule.go:152", after := #[{ on := 9, ground := Ground.data }, { on := 8, ground := Ground.data }, { on := 8, ground := Ground.chain }, { on := 0, ground := Ground.phase }, { on := 1, ground := Ground.phase }, { on := 2, ground := Ground.phase }, { on := 3, ground := Ground.phase }, { on := 4, ground := Ground.phase }, { on := 5, ground := Ground.phase }, { on := 6, ground := Ground.phase }, { on := 7, ground := Ground.phase }, { on := 8, ground := Ground.phase }], guard := none }) rfl (fun K hK => ?_) AllReadyH.nil)
          have HPB : Hid (Rp c (w7.setCell ⟨rb, 0, none⟩ (.slice (some ⟨g4, 0, none⟩) (k + 1) cp4)) rb nb B k (k + 1) (upN P k (.slice ar lr cr)) (upN Q k (.slice av lv cv)) (.slice (some ⟨g3, 0, none⟩) (k + 1) cp3) (.slice (some ⟨g4, 0, none⟩) (k + 1) cp4)) := HP6.out.stepB hown4 hgrow4 hat4
          have HBB : Hid (Below (w.alloc (.cells #[.slice none 0 0, .slice none 0 0] 65)).heap.size (w.alloc (.cells #[.slice none 0 0, .slice none 0 0] 65)) (w7.setCell ⟨rb, 0, none⟩ (.slice (some ⟨g4, 0, none⟩) (k + 1) cp4))) := ((HBW.out.trans ((show Below W5.heap.size W5 (W5.alloc (.cells #[.int .i64 (c.la k)] 3)) from alloc_b).mono HBW.out.size)).grown hgrow4 (by have := HBW.out.size; have := (show Below W5.heap.size W5 (W5.alloc (.cells #[.int .i64 (c.la k)] 3)) from alloc_b).size; omega) (fun g hg => by have := (HP6.out.la.lt g hg).1; have := HLB.out; omega)).setCell (p := ⟨rb, 0, none⟩) (by have := HLR.out; show _ ≤ rb; omega) _
          refine step_skip (w7.setCell ⟨rb, 0, none⟩ (.slice (some ⟨g4, 0, none⟩) (k + 1) cp4)) (by rfl) (by go_simp) ?_
          refine hK.out _ _ trivial (fun hH' => ?_)
          clear hK K hH' 
          refine wpAnyH_done (by kernel_rfl) ?_ _
          clear HPA
          obtain ⟨wB, hwB⟩ : ∃ wB, w7.setCell ⟨rb, 0, none⟩ (.slice (some ⟨g4, 0, none⟩) (k + 1) cp4) = wB := ⟨_, rfl⟩
          rw [hwB] at HPB HBB ⊢
          clear hwB hown4 hgrow4 hat4 hlt4 zr7 c7 f7
          have NP0 : Hid (Np B wB nb n k wB.heap.size c.np (.slice none 0 0) (c.npk k 0)) := by have := HPB.out.begin hkc; rw [HN.out] at this; exact this
          have BN0 : Hid (Bn wB.heap.size nb wB wB) := Bn.refl _ _ _
          obtain ⟨b0, hb0⟩ : ∃ b0, wB.heap.size = b0 := ⟨_, rfl⟩
          have HB0 : Hid (wB.heap.size = b0) := hb0
          have HLb : Hid (rb < b0) := by have := HPB.out.fx.hs; have := HPB.out.fx.hr; show _ < _; omega
          have HG3 : Hid (g3 < b0 ∧ g3 ≠ nb) := by have h1 := HPB.out.st.lt g3 rfl; have h2 := HPB.out.fx.nq.hB; exact ⟨by omega, by omega⟩
          rw [hb0] at NP0 BN0
          clear hb0
          have cpk : k + 1 ≤ cp3 := by
            rcases HPB.out.st.2 with ⟨h1, _⟩ | ⟨_, _, _, h1, _, _, h4, _⟩
            · cases h1
            · injection h1 with _ _ h1
              omega
          have cp0 : (k : Int) ≤ (cp3 : Int) := by omega
          have cpn : ¬ cp3 = 0 := by omega
          go_wp2
          go_loopw [54] (fun i wx => ∃ (q : Nat) (x : Value), q ≤ k ∧ i = .int .i64 q ∧ Hid (Np B wx nb n k b0 c.np x (c.npk k q)) ∧ Hid (Bn b0 nb wB wx) ∧ Hid (∀ z, z < k → wx.cell? ⟨nb, z, none⟩ = wB.cell? ⟨nb, z, none⟩) ∧ Hid (Below (w.alloc (.cells #[.slice none 0 0, .slice none 0 0] 65)).heap.size (w.alloc (.cells #[.slice none 0 0, .slice none 0 0] 65)) wx)) (fun i _ => k - (intOf i).toNat)
          case atStart => exact ⟨0, _, Nat.zero_le _, rfl, NP0, BN0, fun _ _ => rfl, HBB⟩
          case round =>
            obtain ⟨q, x, hq, rfl, NPW, BNW, OLW, HBX⟩ := hrel
            clear NP0 BN0
            by_cases hqk : q < k
            · have q1 : (q : Int) < (k : Int) := by omega
              have q0 : (0 : Int) ≤ (q : Int) := by omega
              have k9 : ¬ (k : Int) + 1 ≤ (k : Int) := by omega
              have hqc : q < c.n := by omega
              have x0 : wr.cell? ⟨g3, q * 9, none⟩ = some (.int .i64 (c.O q)) := BNW.out.cell (HPB.out.cells q 0 (by omega) (by omega)) HG3.out.1 HG3.out.2
              have x1 : wr.cell? ⟨g3, q * 9 + 1, none⟩ = some (.int .i64 (c.D q)) := BNW.out.cell (HPB.out.cells q 1 (by omega) (by omega)) HG3.out.1 HG3.out.2
              have x2 : wr.cell? ⟨g3, q * 9 + 2, none⟩ = some (.int .i64 (c.A q)) := BNW.out.cell (HPB.out.cells q 2 (by omega) (by omega)) HG3.out.1 HG3.out.2
              have x3 : wr.cell? ⟨g3, q * 9 + 3, none⟩ = some (.int .i64 (c.B q)) := BNW.out.cell (HPB.out.cells q 3 (by omega) (by omega)) HG3.out.1 HG3.out.2
              have x4 : wr.cell? ⟨g3, q * 9 + 4, none⟩ = some (.int .i64 (c.C q)) := BNW.out.cell (HPB.out.cells q 4 (by omega) (by omega)) HG3.out.1 HG3.out.2
              have x5 : wr.cell? ⟨g3, q * 9 + 5, none⟩ = some (.int .u32 (c.X q)) := BNW.out.cell (HPB.out.cells q 5 (by omega) (by omega)) HG3.out.1 HG3.out.2
              have x6 : wr.cell? ⟨g3, q * 9 + 6, none⟩ = some (upN P k (.slice ar lr cr) q) := BNW.out.cell (HPB.out.cells q 6 (by omega) (by omega)) HG3.out.1 HG3.out.2
              have x7 : wr.cell? ⟨g3, q * 9 + 7, none⟩ = some (upN Q k (.slice av lv cv) q) := BNW.out.cell (HPB.out.cells q 7 (by omega) (by omega)) HG3.out.1 HG3.out.2
              have x8 : wr.cell? ⟨g3, q * 9 + 8, none⟩ = some (.int .i64 (c.la q)) := BNW.out.cell (HPB.out.cells q 8 (by omega) (by omega)) HG3.out.1 HG3.out.2
              have y0 : wr.cell? ⟨g3, k * 9, none⟩ = some (.int .i64 (c.O k)) := BNW.out.cell ((HPB.out.cells k 0 (by omega) (by omega)).trans (by simp [Rc.s9, upN_at])) HG3.out.1 HG3.out.2
              have y1 : wr.cell? ⟨g3, k * 9 + 1, none⟩ = some (.int .i64 (c.D k)) := BNW.out.cell ((HPB.out.cells k 1 (by omega) (by omega)).trans (by simp [Rc.s9, upN_at])) HG3.out.1 HG3.out.2
              have y2 : wr.cell? ⟨g3, k * 9 + 2, none⟩ = some (.int .i64 (c.A k)) := BNW.out.cell ((HPB.out.cells k 2 (by omega) (by omega)).trans (by simp [Rc.s9, upN_at])) HG3.out.1 HG3.out.2
              have y3 : wr.cell? ⟨g3, k * 9 + 3, none⟩ = some (.int .i64 (c.B k)) := BNW.out.cell ((HPB.out.cells k 3 (by omega) (by omega)).trans (by simp [Rc.s9, upN_at])) HG3.out.1 HG3.out.2
              have y4 : wr.cell? ⟨g3, k * 9 + 4, none⟩ = some (.int .i64 (c.C k)) := BNW.out.cell ((HPB.out.cells k 4 (by omega) (by omega)).trans (by simp [Rc.s9, upN_at])) HG3.out.1 HG3.out.2
              have y5 : wr.cell? ⟨g3, k * 9 + 5, none⟩ = some (.int .u32 (c.X k)) := BNW.out.cell ((HPB.out.cells k 5 (by omega) (by omega)).trans (by simp [Rc.s9, upN_at])) HG3.out.1 HG3.out.2
              have y6 : wr.cell? ⟨g3, k * 9 + 6, none⟩ = some (.slice ar lr cr) := BNW.out.cell ((HPB.out.cells k 6 (by omega) (by omega)).trans (by simp [Rc.s9, upN_at])) HG3.out.1 HG3.out.2
              have y7 : wr.cell? ⟨g3, k * 9 + 7, none⟩ = some (.slice av lv cv) := BNW.out.cell ((HPB.out.cells k 7 (by omega) (by omega)).trans (by simp [Rc.s9, upN_at])) HG3.out.1 HG3.out.2
              have y8 : wr.cell? ⟨g3, k * 9 + 8, none⟩ = some (.int .i64 (c.la k)) := BNW.out.cell ((HPB.out.cells k 8 (by omega) (by omega)).trans (by simp [Rc.s9, upN_at])) HG3.out.1 HG3.out.2
              have HR1 : Hid (∀ v, Below wr.heap.size wr v → ARow v (upN P k (.slice ar lr cr) q) (srt (opsL (c.O q) (c.A q) (c.B q) (c.C q) (c.X q))) ∧ ARow v (upN Q k (.slice av lv cv) q) (wrL (c.O q) (c.D q)) ∧ ARow v (.slice ar lr cr) (srt (opsL (c.O k) (c.A k) (c.B k) (c.C k) (c.X k))) ∧ ARow v (.slice av lv cv) (wrL (c.O k) (c.D k))) := fun v bv => by
                have hB0 := HB0.out
                have a1 := (BNW.out.iown (HPB.out.fx.rd q (by omega)) HPB.out.fx.nq.hB (by omega)).next' bv
                have a2 := (BNW.out.iown (HPB.out.fx.wr q (by omega)) HPB.out.fx.nq.hB (by omega)).next' bv
                have a3 := (BNW.out.iown (HPB.out.fx.rd k (by omega)) HPB.out.fx.nq.hB (by omega)).next' bv
                have a4 := (BNW.out.iown (HPB.out.fx.wr k (by omega)) HPB.out.fx.nq.hB (by omega)).next' bv
                rw [upN_at] at a3 a4
                exact ⟨a1.arow, a2.arow, a3.arow, a4.arow⟩
              generalize hPq : upN P k (.slice ar lr cr) q = pq at x6 HR1
              generalize hQq : upN Q k (.slice av lv cv) q = qq at x7 HR1
              clear hPq hQq
              obtain ⟨⟨pa, pc, rfl, _⟩, ⟨qa, qc, rfl, _⟩, _, _⟩ := HR1.out wr (Below.refl _ _)
              generalize (srt (opsL (c.O q) (c.A q) (c.B q) (c.C q) (c.X q))).length = pl at *
              generalize (wrL (c.O q) (c.D q)).length = ql at *
              have h83 : ∀ v, Below wr.heap.size wr v → Calls Tryd.prog 83 #[.agg #[.int .i64 (c.O k), .int .i64 (c.D k), .int .i64 (c.A k), .int .i64 (c.B k), .int .i64 (c.C k), .int .u32 (c.X k), .slice ar lr cr, .slice av lv cv, .int .i64 (c.la k)], .agg #[.int .i64 (c.O q), .int .i64 (c.D q), .int .i64 (c.A q), .int .i64 (c.B q), .int .i64 (c.C q), .int .u32 (c.X q), .slice pa pl pc, .slice qa ql qc, .int .i64 (c.la q)]] v fun e w' => e = .returned (.int .i64 (if c.nd q k then c.wa q k else 0)) ∧ Below v.heap.size v w' := fun v bv => by
                rw [← wz_nd]
                obtain ⟨a1, a2, a3, a4⟩ := HR1.out v bv
                exact waitfor _ _ _ _ _ _ _ _ _ _ _ _ _ _ _ _ _ v a1 a2 a3 a4
              have y0' : (wr.alloc (.cells #[.int .i64 (c.O q), .int .i64 (c.D q), .int .i64 (c.A q), .int .i64 (c.B q), .int .i64 (c.C q), .int .u32 (c.X q), .slice pa pl pc, .slice qa ql qc, .int .i64 (c.la q)] 101)).cell? ⟨g3, k * 9, none⟩ = _ := cell_nx y0 alloc_b
              have y1' : (wr.alloc (.cells #[.int .i64 (c.O q), .int .i64 (c.D q), .int .i64 (c.A q), .int .i64 (c.B q), .int .i64 (c.C q), .int .u32 (c.X q), .slice pa pl pc, .slice qa ql qc, .int .i64 (c.la q)] 101)).cell? ⟨g3, k * 9 + 1, none⟩ = _ := cell_nx y1 alloc_b
              have y2' : (wr.alloc (.cells #[.int .i64 (c.O q), .int .i64 (c.D q), .int .i64 (c.A q), .int .i64 (c.B q), .int .i64 (c.C q), .int .u32 (c.X q), .slice pa pl pc, .slice qa ql qc, .int .i64 (c.la q)] 101)).cell? ⟨g3, k * 9 + 2, none⟩ = _ := cell_nx y2 alloc_b
              have y3' : (wr.alloc (.cells #[.int .i64 (c.O q), .int .i64 (c.D q), .int .i64 (c.A q), .int .i64 (c.B q), .int .i64 (c.C q), .int .u32 (c.X q), .slice pa pl pc, .slice qa ql qc, .int .i64 (c.la q)] 101)).cell? ⟨g3, k * 9 + 3, none⟩ = _ := cell_nx y3 alloc_b
              have y4' : (wr.alloc (.cells #[.int .i64 (c.O q), .int .i64 (c.D q), .int .i64 (c.A q), .int .i64 (c.B q), .int .i64 (c.C q), .int .u32 (c.X q), .slice pa pl pc, .slice qa ql qc, .int .i64 (c.la q)] 101)).cell? ⟨g3, k * 9 + 4, none⟩ = _ := cell_nx y4 alloc_b
              have y5' : (wr.alloc (.cells #[.int .i64 (c.O q), .int .i64 (c.D q), .int .i64 (c.A q), .int .i64 (c.B q), .int .i64 (c.C q), .int .u32 (c.X q), .slice pa pl pc, .slice qa ql qc, .int .i64 (c.la q)] 101)).cell? ⟨g3, k * 9 + 5, none⟩ = _ := cell_nx y5 alloc_b
              have y6' : (wr.alloc (.cells #[.int .i64 (c.O q), .int .i64 (c.D q), .int .i64 (c.A q), .int .i64 (c.B q), .int .i64 (c.C q), .int .u32 (c.X q), .slice pa pl pc, .slice qa ql qc, .int .i64 (c.la q)] 101)).cell? ⟨g3, k * 9 + 6, none⟩ = _ := cell_nx y6 alloc_b
              have y7' : (wr.alloc (.cells #[.int .i64 (c.O q), .int .i64 (c.D q), .int .i64 (c.A q), .int .i64 (c.B q), .int .i64 (c.C q), .int .u32 (c.X q), .slice pa pl pc, .slice qa ql qc, .int .i64 (c.la q)] 101)).cell? ⟨g3, k * 9 + 7, none⟩ = _ := cell_nx y7 alloc_b
              have y8' : (wr.alloc (.cells #[.int .i64 (c.O q), .int .i64 (c.D q), .int .i64 (c.A q), .int .i64 (c.B q), .int .i64 (c.C q), .int .u32 (c.X q), .slice pa pl pc, .slice qa ql qc, .int .i64 (c.la q)] 101)).cell? ⟨g3, k * 9 + 8, none⟩ = _ := cell_nx y8 alloc_b
              clear y0 y1 y2 y3 y4 y5 y6 y7 y8
              have hwa := c.wa_pos q k
              have HW0 : Hid (c.npk k (q + 1) = c.npk k q ++ (if c.nd q k then [((q : Int), c.wa q k)] else [])) := rfl
              clear HR1
              generalize c.nd q k = bb at h83 HW0
              cases bb
              · have HW : Hid (c.npk k (q + 1) = c.npk k q) := by have := HW0.out; show _ = _; rw [this]; simp
                simp only [Bool.false_eq_true, if_false] at h83
                go_wp2
                go_region_with (go_at_call 83; refine (h83 _ ?_).mono ?_; (focus (first | exact alloc_b | exact (alloc_b (v := wr)).trans (below_drew (Below.refl _ _)) | exact below_drew alloc_b)); rintro e w9 ⟨rfl, b9⟩; (have B9 : Below wr.heap.size wr w9 := by first | exact (alloc_b (v := wr)).trans (b9.mono (alloc_b (v := wr)).size) | exact (below_drew (alloc_b (v := wr))).trans (b9.mono (below_drew (alloc_b (v := wr))).size)); clear b9)
                all_goals
                  have NPN : Hid (Np B w9 nb n k b0 c.np x (c.npk k (q + 1))) := by show Np _ _ _ _ _ _ _ _ _; rw [HW.out]; exact NPW.out.next B9
                  have BNN : Hid (Bn b0 nb wB w9) := BNW.out.below B9 NPW.out.ri.2
                  have OLN : Hid (∀ z, z < k → w9.cell? ⟨nb, z, none⟩ = wB.cell? ⟨nb, z, none⟩) := fun z hz => (B9.cell (p := ⟨nb, z, none⟩) NPW.out.hq).trans (OLW.out z hz)
                  have BWN : Hid (Below (w.alloc (.cells #[.slice none 0 0, .slice none 0 0] 65)).heap.size (w.alloc (.cells #[.slice none 0 0, .slice none 0 0] 65)) w9) := HBX.out.trans (B9.mono HBX.out.size)
                  clear NPW BNW OLW HBX
                  go_wp2
                  go_roundw
                  case rel => exact ⟨q + 1, _, by omega, by go_num, NPN, BNN, OLN, BWN⟩
                  case measure => simp [intOf]; omega
              · have HW : Hid (c.npk k (q + 1) = c.npk k q ++ [((q : Int), c.wa q k)]) := by have := HW0.out; show _ = _; rw [this]; simp
                simp only [if_true] at h83
                have wp0 : (0 : Int) < c.wa q k := by omega
                go_wp2
                go_region_with (go_at_call 83; refine (h83 _ ?_).mono ?_; (focus (first | exact alloc_b | exact (alloc_b (v := wr)).trans (below_drew (Below.refl _ _)) | exact below_drew alloc_b)); rintro e w9 ⟨rfl, b9⟩; (have B9 : Below wr.heap.size wr w9 := by first | exact (alloc_b (v := wr)).trans (b9.mono (alloc_b (v := wr)).size) | exact (below_drew (alloc_b (v := wr))).trans (b9.mono (below_drew (alloc_b (v := wr))).size)); clear b9)
                all_goals
                  have B9d : Below wr.heap.size wr w9.drew := below_drew B9
                  have NPd := Hid.mk (NPW.out.next B9d)
                  have BNd := Hid.mk (BNW.out.below B9d NPW.out.ri.2)
                  have OLd : Hid (∀ z, z < k → w9.drew.cell? ⟨nb, z, none⟩ = wB.cell? ⟨nb, z, none⟩) := fun z hz => (B9d.cell (p := ⟨nb, z, none⟩) NPW.out.hq).trans (OLW.out z hz)
                  have HBd : Hid (Below (w.alloc (.cells #[.slice none 0 0, .slice none 0 0] 65)).heap.size (w.alloc (.cells #[.slice none 0 0, .slice none 0 0] 65)) w9.drew) := HBX.out.trans (B9d.mono HBX.out.size)
                  have hH0 : w9.drew.cell? ⟨rb, 1, none⟩ = some (.slice (some ⟨nb, 0, none⟩) n n) := by have := BNd.out.cell HPB.out.fx.c1 HLb.out HPB.out.fx.ne; rw [HN.out] at this; exact this
                  clear NPW BNW OLW HBX B9 B9d x0 y0' x1 y1' x2 y2' x3 y3' x4 y4' x5 y5' x6 y6' x7 y7' x8 y8'
                  go_wp2
                  generalize hWW : w9.drew = W9 at NPd BNd OLd HBd hH0
                  refine wp_region_held_drew (S := fun v => v.cell? ⟨rb, 1, none⟩ = some (.slice (some ⟨nb, 0, none⟩) n n)) (by kernel_rfl) (by rw [hWW]; exact hH0) (fun hH => ?_)
                  rw [hWW] at hH ⊢
                  clear hWW hH0
                  have NP1 := NPd
                  have NPW := NPd
                  have BNW := BNd
                  have OLW := OLd
                  have HBW9 := HBd
                  clear NPd BNd OLd HBd
                  refine wpAnyH_take (i := 0) (oi := { dst := some 67, op := Op.fieldAddr 65 (Operand.tmp 4) 1, type := 0, pos := "l14_schedule.go:155", after := #[], guard := none }) (v := .pointer (some ⟨rb, 1, none⟩)) rfl (by kernel_rfl) (by kernel_rfl) (by kernel_rfl) (fun _ _ _ h => h) (Or.inl ⟨by rfl, fun w0 hSw => by (go_simp)⟩) hH ?_
                  simp only [Act.put, List.setIfInBounds_toArray, List.set_cons_zero, List.set_cons_succ]
                  refine wpAnyH_take (i := 1) (oi := { dst := some 68, op := Op.load 63 (Operand.tmp 67), type := 63, pos := "l14_schedule.go:155", after := #[{ on := 0, ground := Ground.data }], guard := none }) (v := .slice (some ⟨nb, 0, none⟩) n n) rfl (by kernel_rfl) (by kernel_rfl) (by kernel_rfl) (fun _ _ _ h => h) (Or.inl ⟨by rfl, fun w0 hSw => by ((have h1 : w0.cell? ⟨rb, 1, none⟩ = some (.slice (some ⟨nb, 0, none⟩) n n) := hSw); go_simp)⟩) hH ?_
                  simp only [Act.put, List.setIfInBounds_toArray, List.set_cons_zero, List.set_cons_succ]
                  refine wpAnyH_take (i := 2) (oi := { dst := some 69, op := Op.move (Operand.tmp 6), type := 3, pos := "l14_schedule.go:155", after := #[], guard := none }) (v := .int .i64 (k : Int)) rfl (by kernel_rfl) (by kernel_rfl) (by kernel_rfl) (fun _ _ _ h => h) (Or.inl ⟨by rfl, fun w0 hSw => by (go_simp)⟩) hH ?_
                  simp only [Act.put, List.setIfInBounds_toArray, List.set_cons_zero, List.set_cons_succ]
                  refine wpAnyH_take (i := 3) (oi := { dst := some 70, op := Op.fieldAddr 65 (Operand.tmp 4) 1, type := 0, pos := "l14_schedule.go:155", after := #[], guard := none }) (v := .pointer (some ⟨rb, 1, none⟩)) rfl (by kernel_rfl) (by kernel_rfl) (by kernel_rfl) (fun _ _ _ h => h) (Or.inl ⟨by rfl, fun w0 hSw => by (go_simp)⟩) hH ?_
                  simp only [Act.put, List.setIfInBounds_toArray, List.set_cons_zero, List.set_cons_succ]
                  refine wpAnyH_take (i := 4) (oi := { dst := some 71, op := Op.load 63 (Operand.tmp 70), type := 63, pos := "l14_schedule.go:155", after := #[{ on := 3, ground := Ground.data }], guard := none }) (v := .slice (some ⟨nb, 0, none⟩) n n) rfl (by kernel_rfl) (by kernel_rfl) (by kernel_rfl) (fun _ _ _ h => h) (Or.inl ⟨by rfl, fun w0 hSw => by ((have h1 : w0.cell? ⟨rb, 1, none⟩ = some (.slice (some ⟨nb, 0, none⟩) n n) := hSw); go_simp)⟩) hH ?_
                  simp only [Act.put, List.setIfInBounds_toArray, List.set_cons_zero, List.set_cons_succ]
                  refine wpAnyH_take (i := 5) (oi := { dst := some 72, op := Op.move (Operand.tmp 6), type := 3, pos := "l14_schedule.go:155", after := #[], guard := none }) (v := .int .i64 (k : Int)) rfl (by kernel_rfl) (by kernel_rfl) (by kernel_rfl) (fun _ _ _ h => h) (Or.inl ⟨by rfl, fun w0 hSw => by (go_simp)⟩) hH ?_
                  simp only [Act.put, List.setIfInBounds_toArray, List.set_cons_zero, List.set_cons_succ]
                  refine wpAnyH_take (i := 6) (oi := { dst := some 73, op := Op.indexAddr 63 (Operand.tmp 71) (Operand.tmp 72), type := 0, pos := "l14_schedule.go:155", after := #[{ on := 4, ground := Ground.data }, { on := 5, ground := Ground.data }], guard := none }) (v := .pointer (some ⟨nb, k, none⟩)) rfl (by kernel_rfl) (by kernel_rfl) (by kernel_rfl) (fun _ _ _ h => h) (Or.inl ⟨by rfl, fun w0 hSw => by (go_simp)⟩) hH ?_
                  simp only [Act.put, List.setIfInBounds_toArray, List.set_cons_zero, List.set_cons_succ]
                  refine wpAnyH_take (i := 8) (oi := { dst := some 75, op := Op.move (Operand.tmp 8), type := 3, pos := "l14_schedule.go:155", after := #[], guard := none }) (v := .int .i64 (q : Int)) rfl (by kernel_rfl) (by kernel_rfl) (by kernel_rfl) (fun _ _ _ h => h) (Or.inl ⟨by rfl, fun w0 hSw => by (go_simp)⟩) hH ?_
                  simp only [Act.put, List.setIfInBounds_toArray, List.set_cons_zero, List.set_cons_succ]
                  refine wpAnyH_take (i := 9) (oi := { dst := some 76, op := Op.move (Operand.tmp 10), type := 3, pos := "l14_schedule.go:155", after := #[], guard := none }) (v := .int .i64 (c.wa q k)) rfl (by kernel_rfl) (by kernel_rfl) (by kernel_rfl) (fun _ _ _ h => h) (Or.inl ⟨by rfl, fun w0 hSw => by (go_simp)⟩) hH ?_
                  simp only [Act.put, List.setIfInBounds_toArray, List.set_cons_zero, List.set_cons_succ]
                  refine wpAnyH_take (i := 10) (oi := { dst := some 77, op := Op.build 70 #[(0, Operand.tmp 75), (1, Operand.tmp 76)], type := 70, pos := "l14_schedule.go:155", after := #[{ on := 8, ground := Ground.data }, { on := 9, ground := Ground.data }], guard := none }) (v := .agg #[.int .i64 (q : Int), .int .i64 (c.wa q k)]) rfl (by kernel_rfl) (by kernel_rfl) (by kernel_rfl) (fun _ _ _ h => h) (Or.inl ⟨by rfl, fun w0 hSw => by (go_simp)⟩) hH ?_
                  simp only [Act.put, List.setIfInBounds_toArray, List.set_cons_zero, List.set_cons_succ]
                  refine wpAnyH_ready (rs := [7, 11]) (by kernel_rfl) (by simp) ?_
                  refine (AllReadyH.cons (o := { dst := some 74, op := Op.load 68 (Operand.tmp 73), type := 68, pos := "l14_schedule.go:155", after := #[{ on := 6, ground := Ground.data }], guard := none }) rfl (fun K hK => ?_) (AllReadyH.cons (o := { dst := some 78, op := Op.buildSlice 68 1 #[(0, Operand.tmp 77)], type := 68, pos := "l14_schedule.go:155", after := #[{ on := 10, ground := Ground.data }], guard := none }) rfl (fun K hK => ?_) AllReadyH.nil))
                  · refine step_val x W9 (by rfl) (by have h1 := NP1.out.cur; go_simp) ?_
                    simp only [Act.put, List.setIfInBounds_toArray, List.set_cons_zero, List.set_cons_succ]
                    refine hK.out _ _ hH (fun hH' => ?_)
                    clear hK K
                    replace hH := hH'
                    clear hH'
                    refine wpAnyH_ready (rs := [11]) (by kernel_rfl) (by simp) ?_
                    refine (AllReadyH.cons (o := { dst := some 78, op := Op.buildSlice 68 1 #[(0, Operand.tmp 77)], type := 68, pos := "l14_schedule.go:155", after := #[{ on := 10, ground := Ground.data }], guard := none }) rfl (fun K hK => ?_) AllReadyH.nil)
                    refine step_val (.slice (some ⟨W9.heap.size, 0, none⟩) 1 1) (W9.alloc (.cells #[.int .i64 (q : Int), .int .i64 (c.wa q k)] 70)) (by rfl) (by go_simp) ?_
                    simp only [Act.put, List.setIfInBounds_toArray, List.set_cons_zero, List.set_cons_succ]
                    refine hK.out _ _ (cell_nx hH alloc_b) (fun hH' => ?_)
                    clear hK K
                    replace hH := hH'
                    clear hH'
                    have NP2 : Hid (Np B (W9.alloc (.cells #[.int .i64 (q : Int), .int .i64 (c.wa q k)] 70)) nb n k b0 c.np x (c.npk k q)) := NP1.out.next alloc_b
                    refine wpAnyH_ready (rs := [12]) (by kernel_rfl) (by simp) ?_
                    refine (AllReadyH.cons (o := { dst := some 79, op := Op.call { callee := Callee.builtin Builtin.append, args := #[Operand.tmp 74, Operand.tmp 78], argTypes := #[68, 68] }, type := 68, pos := "l14_schedule.go:155", after := #[{ on := 7, ground := Ground.data }, { on := 11, ground := Ground.data }], guard := none }) rfl (fun K hK => ?_) AllReadyH.nil)
                    refine step_append_lies _ (by rfl) (.tmp 74) (.tmp 78) 68 (by rfl) b0 70 i7 (.agg #[.int .i64 0, .int .i64 0]) 2 16 Tryd.underlying68 hi7 hz70 hz71 hz72 rfl (by decide) x _ _ (by rfl) NP2.out.ri.1 ⟨W9.heap.size, 0, none⟩ 1 1 [.int .i64 (q : Int), .int .i64 (c.wa q k)] (by rfl) rfl (two_new _ _) (two_one _ _) (by decide) (by have := c.npk_len k q; unfold maxLen; omega) (by have := c.npk_len k q; omega) NP2.out.ri.2 _ rfl ?_
                    intro g8 cp8 w12 hown8 hgrow8 hat8 hlt8
                    simp only [Act.put, List.setIfInBounds_toArray, List.set_cons_zero, List.set_cons_succ]
                    obtain ⟨c12, r12⟩ := NP2.out.keep hgrow8 k
                    rw [NP2.out.cur] at c12
                    have o12 : ∀ z, w12.cell? ⟨nb, z, none⟩ = (W9.alloc (.cells #[.int .i64 (q : Int), .int .i64 (c.wa q k)] 70)).cell? ⟨nb, z, none⟩ := fun z => (NP2.out.keep hgrow8 z).1
                    have h12 : w12.cell? ⟨rb, 1, none⟩ = some (.slice (some ⟨nb, 0, none⟩) n n) := (World.cell?_of_block (a := ⟨rb, 1, none⟩) (hgrow8.block rb (by have := NP2.out.ri.2; have := HLb.out; omega) (fun e => by have := (NP2.out.ri.lt rb e.symm).1; have := HLb.out; omega))).trans hH
                    refine hK.out _ _ h12 (fun hH' => ?_)
                    clear hK K
                    replace hH := hH'
                    clear hH' 
                    refine wpAnyH_take (i := 13) (oi := { dst := some 80, op := Op.indexAddr 63 (Operand.tmp 68) (Operand.tmp 69), type := 0, pos := "l14_schedule.go:155", after := #[{ on := 1, ground := Ground.data }, { on := 2, ground := Ground.data }, { on := 0, ground := Ground.phase }, { on := 1, ground := Ground.phase }, { on := 2, ground := Ground.phase }, { on := 3, ground := Ground.phase }, { on := 4, ground := Ground.phase }, { on := 5, ground := Ground.phase }, { on := 6, ground := Ground.phase }, { on := 7, ground := Ground.phase }, { on := 8, ground := Ground.phase }, { on := 9, ground := Ground.phase }, { on := 10, ground := Ground.phase }, { on := 11, ground := Ground.phase }, { on := 12, ground := Ground.phase }], guard := none }) (v := .pointer (some ⟨nb, k, none⟩)) rfl (by kernel_rfl) (by kernel_rfl) (by kernel_rfl) (fun _ _ _ h => h) (Or.inl ⟨by rfl, fun w0 hSw => by (go_simp)⟩) hH ?_
                    simp only [Act.put, List.setIfInBounds_toArray, List.set_cons_zero, List.set_cons_succ]
                    refine wpAnyH_ready (rs := [14]) (by kernel_rfl) (by simp) ?_
                    refine (AllReadyH.cons (o := { dst := none, op := Op.store 68 (Operand.tmp 80) (Operand.tmp 79), type := 0, pos := "l14_schedule.go:155", after := #[{ on := 13, ground := Ground.data }, { on := 12, ground := Ground.data }, { on := 12, ground := Ground.chain }, { on := 0, ground := Ground.phase }, { on := 1, ground := Ground.phase }, { on := 2, ground := Ground.phase }, { on := 3, ground := Ground.phase }, { on := 4, ground := Ground.phase }, { on := 5, ground := Ground.phase }, { on := 6, ground := Ground.phase }, { on := 7, ground := Ground.phase }, { on := 8, ground := Ground.phase }, { on := 9, ground := Ground.phase }, { on := 10, ground := Ground.phase }, { on := 11, ground := Ground.phase }, { on := 12, ground := Ground.phase }], guard := none }) rfl (fun K hK => ?_) AllReadyH.nil)
                    have U8 : Rn b0 w12 (.slice (some ⟨g8, 0, none⟩) ((c.npk k q).length + 1) cp8) (c.npk k q ++ [((q : Int), c.wa q k)]) := ⟨by rw [List.length_append, nl2_app]; exact hown8, Nat.le_trans NP2.out.ri.2 hgrow8.size⟩
                    have NPN : Hid (Np B (w12.setCell ⟨nb, k, none⟩ (.slice (some ⟨g8, 0, none⟩) ((c.npk k q).length + 1) cp8)) nb n k b0 c.np (.slice (some ⟨g8, 0, none⟩) ((c.npk k q).length + 1) cp8) (c.npk k (q + 1))) := by show Np _ _ _ _ _ _ _ _ _; rw [HW.out]; exact NP2.out.push hgrow8 U8 (fun g hg => (NP2.out.ri.lt g hg).1)
                    have BNN : Hid (Bn b0 nb wB (w12.setCell ⟨nb, k, none⟩ (.slice (some ⟨g8, 0, none⟩) ((c.npk k q).length + 1) cp8))) := ((BNW.out.below (show Below W9.heap.size W9 (W9.alloc (.cells #[.int .i64 (q : Int), .int .i64 (c.wa q k)] 70)) from alloc_b) (by have := NPW.out.ri.2; exact this)).grown hgrow8 NP2.out.ri.2 (fun g hg => (NP2.out.ri.lt g hg).1)).set k _
                    have OLN : Hid (∀ z, z < k → (w12.setCell ⟨nb, k, none⟩ (.slice (some ⟨g8, 0, none⟩) ((c.npk k q).length + 1) cp8)).cell? ⟨nb, z, none⟩ = wB.cell? ⟨nb, z, none⟩) := fun z hz => by
                      rw [World.cell?_setCell_other (h := addr_ne (by omega)), o12 z, (show Below W9.heap.size W9 (W9.alloc (.cells #[.int .i64 (q : Int), .int .i64 (c.wa q k)] 70)) from alloc_b).cell (p := ⟨nb, z, none⟩) NPW.out.hq]
                      exact OLW.out z hz
                    have BWN : Hid (Below (w.alloc (.cells #[.slice none 0 0, .slice none 0 0] 65)).heap.size (w.alloc (.cells #[.slice none 0 0, .slice none 0 0] 65)) (w12.setCell ⟨nb, k, none⟩ (.slice (some ⟨g8, 0, none⟩) ((c.npk k q).length + 1) cp8))) := ((HBW9.out.trans ((show Below W9.heap.size W9 (W9.alloc (.cells #[.int .i64 (q : Int), .int .i64 (c.wa q k)] 70)) from alloc_b).mono HBW9.out.size)).grown hgrow8 (by have := HBW9.out.size; have := (show Below W9.heap.size W9 (W9.alloc (.cells #[.int .i64 (q : Int), .int .i64 (c.wa q k)] 70)) from alloc_b).size; omega) (fun g hg => by have := (NP2.out.ri.lt g hg).1; have := HLb.out; have := HLR.out; omega)).setCell (p := ⟨nb, k, none⟩) (by have := HLN.out; show _ ≤ nb; omega) _
                    refine step_skip (w12.setCell ⟨nb, k, none⟩ (.slice (some ⟨g8, 0, none⟩) ((c.npk k q).length + 1) cp8)) (by rfl) (by go_simp) ?_
                    refine hK.out _ _ (by rw [World.cell?_setCell_other (h := addr_ne' (Ne.symm HNE.out))]; exact hH) (fun hH' => ?_)
                    clear hK K hH' 
                    refine wpAnyH_done (by kernel_rfl) ?_ _
                    clear hH U8
                    go_wp2
                    go_roundw
                    case rel => exact ⟨q + 1, _, by omega, by go_num, NPN, BNN, OLN, BWN⟩
                    case measure => simp [intOf]; omega
                  · refine step_val (.slice (some ⟨W9.heap.size, 0, none⟩) 1 1) (W9.alloc (.cells #[.int .i64 (q : Int), .int .i64 (c.wa q k)] 70)) (by rfl) (by go_simp) ?_
                    simp only [Act.put, List.setIfInBounds_toArray, List.set_cons_zero, List.set_cons_succ]
                    refine hK.out _ _ (cell_nx hH alloc_b) (fun hH' => ?_)
                    clear hK K
                    replace hH := hH'
                    clear hH'
                    have NP2 : Hid (Np B (W9.alloc (.cells #[.int .i64 (q : Int), .int .i64 (c.wa q k)] 70)) nb n k b0 c.np x (c.npk k q)) := NP1.out.next alloc_b
                    refine wpAnyH_ready (rs := [7]) (by kernel_rfl) (by simp) ?_
                    refine (AllReadyH.cons (o := { dst := some 74, op := Op.load 68 (Operand.tmp 73), type := 68, pos := "l14_schedule.go:155", after := #[{ on := 6, ground := Ground.data }], guard := none }) rfl (fun K hK => ?_) AllReadyH.nil)
                    refine step_val x (W9.alloc (.cells #[.int .i64 (q : Int), .int .i64 (c.wa q k)] 70)) (by rfl) (by have h1 := NP2.out.cur; go_simp) ?_
                    simp only [Act.put, List.setIfInBounds_toArray, List.set_cons_zero, List.set_cons_succ]
                    refine hK.out _ _ hH (fun hH' => ?_)
                    clear hK K
                    replace hH := hH'
                    clear hH'
                    refine wpAnyH_ready (rs := [12]) (by kernel_rfl) (by simp) ?_
                    refine (AllReadyH.cons (o := { dst := some 79, op := Op.call { callee := Callee.builtin Builtin.append, args := #[Operand.tmp 74, Operand.tmp 78], argTypes := #[68, 68] }, type := 68, pos := "l14_schedule.go:155", after := #[{ on := 7, ground := Ground.data }, { on := 11, ground := Ground.data }], guard := none }) rfl (fun K hK => ?_) AllReadyH.nil)
                    refine step_append_lies _ (by rfl) (.tmp 74) (.tmp 78) 68 (by rfl) b0 70 i7 (.agg #[.int .i64 0, .int .i64 0]) 2 16 Tryd.underlying68 hi7 hz70 hz71 hz72 rfl (by decide) x _ _ (by rfl) NP2.out.ri.1 ⟨W9.heap.size, 0, none⟩ 1 1 [.int .i64 (q : Int), .int .i64 (c.wa q k)] (by rfl) rfl (two_new _ _) (two_one _ _) (by decide) (by have := c.npk_len k q; unfold maxLen; omega) (by have := c.npk_len k q; omega) NP2.out.ri.2 _ rfl ?_
                    intro g8 cp8 w12 hown8 hgrow8 hat8 hlt8
                    simp only [Act.put, List.setIfInBounds_toArray, List.set_cons_zero, List.set_cons_succ]
                    obtain ⟨c12, r12⟩ := NP2.out.keep hgrow8 k
                    rw [NP2.out.cur] at c12
                    have o12 : ∀ z, w12.cell? ⟨nb, z, none⟩ = (W9.alloc (.cells #[.int .i64 (q : Int), .int .i64 (c.wa q k)] 70)).cell? ⟨nb, z, none⟩ := fun z => (NP2.out.keep hgrow8 z).1
                    have h12 : w12.cell? ⟨rb, 1, none⟩ = some (.slice (some ⟨nb, 0, none⟩) n n) := (World.cell?_of_block (a := ⟨rb, 1, none⟩) (hgrow8.block rb (by have := NP2.out.ri.2; have := HLb.out; omega) (fun e => by have := (NP2.out.ri.lt rb e.symm).1; have := HLb.out; omega))).trans hH
                    refine hK.out _ _ h12 (fun hH' => ?_)
                    clear hK K
                    replace hH := hH'
                    clear hH' 
                    refine wpAnyH_take (i := 13) (oi := { dst := some 80, op := Op.indexAddr 63 (Operand.tmp 68) (Operand.tmp 69), type := 0, pos := "l14_schedule.go:155", after := #[{ on := 1, ground := Ground.data }, { on := 2, ground := Ground.data }, { on := 0, ground := Ground.phase }, { on := 1, ground := Ground.phase }, { on := 2, ground := Ground.phase }, { on := 3, ground := Ground.phase }, { on := 4, ground := Ground.phase }, { on := 5, ground := Ground.phase }, { on := 6, ground := Ground.phase }, { on := 7, ground := Ground.phase }, { on := 8, ground := Ground.phase }, { on := 9, ground := Ground.phase }, { on := 10, ground := Ground.phase }, { on := 11, ground := Ground.phase }, { on := 12, ground := Ground.phase }], guard := none }) (v := .pointer (some ⟨nb, k, none⟩)) rfl (by kernel_rfl) (by kernel_rfl) (by kernel_rfl) (fun _ _ _ h => h) (Or.inl ⟨by rfl, fun w0 hSw => by (go_simp)⟩) hH ?_
                    simp only [Act.put, List.setIfInBounds_toArray, List.set_cons_zero, List.set_cons_succ]
                    refine wpAnyH_ready (rs := [14]) (by kernel_rfl) (by simp) ?_
                    refine (AllReadyH.cons (o := { dst := none, op := Op.store 68 (Operand.tmp 80) (Operand.tmp 79), type := 0, pos := "l14_schedule.go:155", after := #[{ on := 13, ground := Ground.data }, { on := 12, ground := Ground.data }, { on := 12, ground := Ground.chain }, { on := 0, ground := Ground.phase }, { on := 1, ground := Ground.phase }, { on := 2, ground := Ground.phase }, { on := 3, ground := Ground.phase }, { on := 4, ground := Ground.phase }, { on := 5, ground := Ground.phase }, { on := 6, ground := Ground.phase }, { on := 7, ground := Ground.phase }, { on := 8, ground := Ground.phase }, { on := 9, ground := Ground.phase }, { on := 10, ground := Ground.phase }, { on := 11, ground := Ground.phase }, { on := 12, ground := Ground.phase }], guard := none }) rfl (fun K hK => ?_) AllReadyH.nil)
                    have U8 : Rn b0 w12 (.slice (some ⟨g8, 0, none⟩) ((c.npk k q).length + 1) cp8) (c.npk k q ++ [((q : Int), c.wa q k)]) := ⟨by rw [List.length_append, nl2_app]; exact hown8, Nat.le_trans NP2.out.ri.2 hgrow8.size⟩
                    have NPN : Hid (Np B (w12.setCell ⟨nb, k, none⟩ (.slice (some ⟨g8, 0, none⟩) ((c.npk k q).length + 1) cp8)) nb n k b0 c.np (.slice (some ⟨g8, 0, none⟩) ((c.npk k q).length + 1) cp8) (c.npk k (q + 1))) := by show Np _ _ _ _ _ _ _ _ _; rw [HW.out]; exact NP2.out.push hgrow8 U8 (fun g hg => (NP2.out.ri.lt g hg).1)
                    have BNN : Hid (Bn b0 nb wB (w12.setCell ⟨nb, k, none⟩ (.slice (some ⟨g8, 0, none⟩) ((c.npk k q).length + 1) cp8))) := ((BNW.out.below (show Below W9.heap.size W9 (W9.alloc (.cells #[.int .i64 (q : Int), .int .i64 (c.wa q k)] 70)) from alloc_b) (by have := NPW.out.ri.2; exact this)).grown hgrow8 NP2.out.ri.2 (fun g hg => (NP2.out.ri.lt g hg).1)).set k _
                    have OLN : Hid (∀ z, z < k → (w12.setCell ⟨nb, k, none⟩ (.slice (some ⟨g8, 0, none⟩) ((c.npk k q).length + 1) cp8)).cell? ⟨nb, z, none⟩ = wB.cell? ⟨nb, z, none⟩) := fun z hz => by
                      rw [World.cell?_setCell_other (h := addr_ne (by omega)), o12 z, (show Below W9.heap.size W9 (W9.alloc (.cells #[.int .i64 (q : Int), .int .i64 (c.wa q k)] 70)) from alloc_b).cell (p := ⟨nb, z, none⟩) NPW.out.hq]
                      exact OLW.out z hz
                    have BWN : Hid (Below (w.alloc (.cells #[.slice none 0 0, .slice none 0 0] 65)).heap.size (w.alloc (.cells #[.slice none 0 0, .slice none 0 0] 65)) (w12.setCell ⟨nb, k, none⟩ (.slice (some ⟨g8, 0, none⟩) ((c.npk k q).length + 1) cp8))) := ((HBW9.out.trans ((show Below W9.heap.size W9 (W9.alloc (.cells #[.int .i64 (q : Int), .int .i64 (c.wa q k)] 70)) from alloc_b).mono HBW9.out.size)).grown hgrow8 (by have := HBW9.out.size; have := (show Below W9.heap.size W9 (W9.alloc (.cells #[.int .i64 (q : Int), .int .i64 (c.wa q k)] 70)) from alloc_b).size; omega) (fun g hg => by have := (NP2.out.ri.lt g hg).1; have := HLb.out; have := HLR.out; omega)).setCell (p := ⟨nb, k, none⟩) (by have := HLN.out; show _ ≤ nb; omega) _
                    refine step_skip (w12.setCell ⟨nb, k, none⟩ (.slice (some ⟨g8, 0, none⟩) ((c.npk k q).length + 1) cp8)) (by rfl) (by go_simp) ?_
                    refine hK.out _ _ (by rw [World.cell?_setCell_other (h := addr_ne' (Ne.symm HNE.out))]; exact hH) (fun hH' => ?_)
                    clear hK K hH' 
                    refine wpAnyH_done (by kernel_rfl) ?_ _
                    clear hH U8
                    go_wp2
                    go_roundw
                    case rel => exact ⟨q + 1, _, by omega, by go_num, NPN, BNN, OLN, BWN⟩
                    case measure => simp [intOf]; omega
            · obtain rfl : k = q := by omega
              have q1 : ¬ (k : Int) < (k : Int) := by omega
              have RON : Hid (Ro c wr rb nb B (k + 1) (upN P k (.slice ar lr cr)) (upN Q k (.slice av lv cv)) (.slice (some ⟨g3, 0, none⟩) (k + 1) cp3) (.slice (some ⟨g4, 0, none⟩) (k + 1) cp4)) := Ro.round HPB.out.fx HPB.out.st HPB.out.la HPB.out.c0 HPB.out.su HPB.out.sl HB0.out BNW.out OLW.out (by rw [HN.out]; exact NPW.out)
              clear NPW BNW OLW HPB
              go_wp2
              go_roundw
              case rel => exact ⟨k + 1, _, _, _, _, by omega, by go_num, rfl, RON, HBX⟩
              case measure => simp [intOf]; omega

        · refine step_val (.slice (some ⟨W5.heap.size, 0, none⟩) 1 1) (W5.alloc (.cells #[.int .i64 (c.la k)] 3)) (by rfl) (by go_simp) ?_
          simp only [Act.put, List.setIfInBounds_toArray, List.set_cons_zero, List.set_cons_succ]
          refine hK.out _ _ trivial (fun hH' => ?_)
          clear hK K hH'
          have HP6 : Hid (Rp c (W5.alloc (.cells #[.int .i64 (c.la k)] 3)) rb nb B k k (upN P k (.slice ar lr cr)) (upN Q k (.slice av lv cv)) (.slice (some ⟨g3, 0, none⟩) (k + 1) cp3) ul) := HP5.out.next alloc_b
          refine wpAnyH_ready (rs := [1]) (by kernel_rfl) (by simp) ?_
          refine (AllReadyH.cons (o := { dst := some 41, op := Op.load 45 (Operand.tmp 40), type := 45, pos := "l14_schedule.go:152", after := #[{ on := 0, ground := Ground.data }], guard := none }) rfl (fun K hK => ?_) AllReadyH.nil)
          refine step_val ul (W5.alloc (.cells #[.int .i64 (c.la k)] 3)) (by rfl) (by have h1 := HP6.out.c0; go_simp) ?_
          simp only [Act.put, List.setIfInBounds_toArray, List.set_cons_zero, List.set_cons_succ]
          refine hK.out _ _ trivial (fun hH' => ?_)
          clear hK K hH'
          refine wpAnyH_ready (rs := [8]) (by kernel_rfl) (by simp) ?_
          refine (AllReadyH.cons (o := { dst := some 48, op := Op.call { callee := Callee.builtin Builtin.append, args := #[Operand.tmp 41, Operand.tmp 47], argTypes := #[45, 45] }, type := 45, pos := "l14_schedule.go:152", after := #[{ on := 1, ground := Ground.data }, { on := 7, ground := Ground.data }], guard := none }) rfl (fun K hK => ?_) AllReadyH.nil)
          refine step_append_lies _ (by rfl) (.tmp 41) (.tmp 47) 45 (by rfl) B 3 i3 (.int .i64 0) 1 8 Tryd.underlying45 hi3 hz30 hz31 hz32 rfl (by decide) ul k (il (c.ll k)) (by rfl) (by have h1 := HP6.out.la.1; rw [c.ll_len] at h1; exact h1) ⟨W5.heap.size, 0, none⟩ 1 1 [.int .i64 (c.la k)] (by rfl) rfl (one_new (c.la k)) (one_one (c.la k)) (by decide) (by unfold maxLen; omega) (by omega) HP6.out.fx.hs _ rfl ?_
          intro g4 cp4 w7 hown4 hgrow4 hat4 hlt4
          simp only [Act.put, List.setIfInBounds_toArray, List.set_cons_zero, List.set_cons_succ]
          refine hK.out _ _ trivial (fun hH' => ?_)
          clear hK K hH'
          have zr7 := hgrow4.block rb (by have := HP6.out.fx.hs; have := HP6.out.fx.hr; omega) (fun e => by have := (HP6.out.la.lt rb e.symm).1; have := HP6.out.fx.hr; omega)
          have c7 : w7.cell? ⟨rb, 0, none⟩ = some ul := (World.cell?_of_block (a := ⟨rb, 0, none⟩) zr7).trans HP6.out.c0
          have f7 : w7.frozen? ⟨rb, 0, none⟩ = false := (World.frozen?_of_block (a := ⟨rb, 0, none⟩) zr7).trans (HP6.out.fx.fr 0)
          refine wpAnyH_take (i := 9) (oi := { dst := some 49, op := Op.fieldAddr 65 (Operand.tmp 4) 0, type := 0, pos := "l14_schedule.go:152", after := #[{ on := 0, ground := Ground.phase }, { on := 1, ground := Ground.phase }, { on := 2, ground := Ground.phase }, { on := 3, ground := Ground.phase }, { on := 4, ground := Ground.phase }, { on := 5, ground := Ground.phase }, { on := 6, ground := Ground.phase }, { on := 7, ground := Ground.phase }, { on := 8, ground := Ground.phase }], guard := none }) (v := .pointer (some ⟨rb, 0, none⟩)) rfl (by kernel_rfl) (by kernel_rfl) (by kernel_rfl) (fun _ _ _ h => h) (Or.inl ⟨by rfl, fun w0 hSw => by (go_simp)⟩) hH ?_
          simp only [Act.put, List.setIfInBounds_toArray, List.set_cons_zero, List.set_cons_succ]
          refine wpAnyH_ready (rs := [10]) (by kernel_rfl) (by simp) ?_
          refine (AllReadyH.cons (o := { dst := none, op := Op.store 45 (Operand.tmp 49) (Operand.tmp 48), type := 0, pos := "l14_schedule.go:152", after := #[{ on := 9, ground := Ground.data }, { on := 8, ground := Ground.data }, { on := 8, ground := Ground.chain }, { on := 0, ground := Ground.phase }, { on := 1, ground := Ground.phase }, { on := 2, ground := Ground.phase }, { on := 3, ground := Ground.phase }, { on := 4, ground := Ground.phase }, { on := 5, ground := Ground.phase }, { on := 6, ground := Ground.phase }, { on := 7, ground := Ground.phase }, { on := 8, ground := Ground.phase }], guard := none }) rfl (fun K hK => ?_) AllReadyH.nil)
          have HPB : Hid (Rp c (w7.setCell ⟨rb, 0, none⟩ (.slice (some ⟨g4, 0, none⟩) (k + 1) cp4)) rb nb B k (k + 1) (upN P k (.slice ar lr cr)) (upN Q k (.slice av lv cv)) (.slice (some ⟨g3, 0, none⟩) (k + 1) cp3) (.slice (some ⟨g4, 0, none⟩) (k + 1) cp4)) := HP6.out.stepB hown4 hgrow4 hat4
          have HBB : Hid (Below (w.alloc (.cells #[.slice none 0 0, .slice none 0 0] 65)).heap.size (w.alloc (.cells #[.slice none 0 0, .slice none 0 0] 65)) (w7.setCell ⟨rb, 0, none⟩ (.slice (some ⟨g4, 0, none⟩) (k + 1) cp4))) := ((HBW.out.trans ((show Below W5.heap.size W5 (W5.alloc (.cells #[.int .i64 (c.la k)] 3)) from alloc_b).mono HBW.out.size)).grown hgrow4 (by have := HBW.out.size; have := (show Below W5.heap.size W5 (W5.alloc (.cells #[.int .i64 (c.la k)] 3)) from alloc_b).size; omega) (fun g hg => by have := (HP6.out.la.lt g hg).1; have := HLB.out; omega)).setCell (p := ⟨rb, 0, none⟩) (by have := HLR.out; show _ ≤ rb; omega) _
          refine step_skip (w7.setCell ⟨rb, 0, none⟩ (.slice (some ⟨g4, 0, none⟩) (k + 1) cp4)) (by rfl) (by go_simp) ?_
          refine hK.out _ _ trivial (fun hH' => ?_)
          clear hK K hH' 
          refine wpAnyH_done (by kernel_rfl) ?_ _
          clear HPA
          obtain ⟨wB, hwB⟩ : ∃ wB, w7.setCell ⟨rb, 0, none⟩ (.slice (some ⟨g4, 0, none⟩) (k + 1) cp4) = wB := ⟨_, rfl⟩
          rw [hwB] at HPB HBB ⊢
          clear hwB hown4 hgrow4 hat4 hlt4 zr7 c7 f7
          have NP0 : Hid (Np B wB nb n k wB.heap.size c.np (.slice none 0 0) (c.npk k 0)) := by have := HPB.out.begin hkc; rw [HN.out] at this; exact this
          have BN0 : Hid (Bn wB.heap.size nb wB wB) := Bn.refl _ _ _
          obtain ⟨b0, hb0⟩ : ∃ b0, wB.heap.size = b0 := ⟨_, rfl⟩
          have HB0 : Hid (wB.heap.size = b0) := hb0
          have HLb : Hid (rb < b0) := by have := HPB.out.fx.hs; have := HPB.out.fx.hr; show _ < _; omega
          have HG3 : Hid (g3 < b0 ∧ g3 ≠ nb) := by have h1 := HPB.out.st.lt g3 rfl; have h2 := HPB.out.fx.nq.hB; exact ⟨by omega, by omega⟩
          rw [hb0] at NP0 BN0
          clear hb0
          have cpk : k + 1 ≤ cp3 := by
            rcases HPB.out.st.2 with ⟨h1, _⟩ | ⟨_, _, _, h1, _, _, h4, _⟩
            · cases h1
            · injection h1 with _ _ h1
              omega
          have cp0 : (k : Int) ≤ (cp3 : Int) := by omega
          have cpn : ¬ cp3 = 0 := by omega
          go_wp2
          go_loopw [54] (fun i wx => ∃ (q : Nat) (x : Value), q ≤ k ∧ i = .int .i64 q ∧ Hid (Np B wx nb n k b0 c.np x (c.npk k q)) ∧ Hid (Bn b0 nb wB wx) ∧ Hid (∀ z, z < k → wx.cell? ⟨nb, z, none⟩ = wB.cell? ⟨nb, z, none⟩) ∧ Hid (Below (w.alloc (.cells #[.slice none 0 0, .slice none 0 0] 65)).heap.size (w.alloc (.cells #[.slice none 0 0, .slice none 0 0] 65)) wx)) (fun i _ => k - (intOf i).toNat)
          case atStart => exact ⟨0, _, Nat.zero_le _, rfl, NP0, BN0, fun _ _ => rfl, HBB⟩
          case round =>
            obtain ⟨q, x, hq, rfl, NPW, BNW, OLW, HBX⟩ := hrel
            clear NP0 BN0
            by_cases hqk : q < k
            · have q1 : (q : Int) < (k : Int) := by omega
              have q0 : (0 : Int) ≤ (q : Int) := by omega
              have k9 : ¬ (k : Int) + 1 ≤ (k : Int) := by omega
              have hqc : q < c.n := by omega
              have x0 : wr.cell? ⟨g3, q * 9, none⟩ = some (.int .i64 (c.O q)) := BNW.out.cell (HPB.out.cells q 0 (by omega) (by omega)) HG3.out.1 HG3.out.2
              have x1 : wr.cell? ⟨g3, q * 9 + 1, none⟩ = some (.int .i64 (c.D q)) := BNW.out.cell (HPB.out.cells q 1 (by omega) (by omega)) HG3.out.1 HG3.out.2
              have x2 : wr.cell? ⟨g3, q * 9 + 2, none⟩ = some (.int .i64 (c.A q)) := BNW.out.cell (HPB.out.cells q 2 (by omega) (by omega)) HG3.out.1 HG3.out.2
              have x3 : wr.cell? ⟨g3, q * 9 + 3, none⟩ = some (.int .i64 (c.B q)) := BNW.out.cell (HPB.out.cells q 3 (by omega) (by omega)) HG3.out.1 HG3.out.2
              have x4 : wr.cell? ⟨g3, q * 9 + 4, none⟩ = some (.int .i64 (c.C q)) := BNW.out.cell (HPB.out.cells q 4 (by omega) (by omega)) HG3.out.1 HG3.out.2
              have x5 : wr.cell? ⟨g3, q * 9 + 5, none⟩ = some (.int .u32 (c.X q)) := BNW.out.cell (HPB.out.cells q 5 (by omega) (by omega)) HG3.out.1 HG3.out.2
              have x6 : wr.cell? ⟨g3, q * 9 + 6, none⟩ = some (upN P k (.slice ar lr cr) q) := BNW.out.cell (HPB.out.cells q 6 (by omega) (by omega)) HG3.out.1 HG3.out.2
              have x7 : wr.cell? ⟨g3, q * 9 + 7, none⟩ = some (upN Q k (.slice av lv cv) q) := BNW.out.cell (HPB.out.cells q 7 (by omega) (by omega)) HG3.out.1 HG3.out.2
              have x8 : wr.cell? ⟨g3, q * 9 + 8, none⟩ = some (.int .i64 (c.la q)) := BNW.out.cell (HPB.out.cells q 8 (by omega) (by omega)) HG3.out.1 HG3.out.2
              have y0 : wr.cell? ⟨g3, k * 9, none⟩ = some (.int .i64 (c.O k)) := BNW.out.cell ((HPB.out.cells k 0 (by omega) (by omega)).trans (by simp [Rc.s9, upN_at])) HG3.out.1 HG3.out.2
              have y1 : wr.cell? ⟨g3, k * 9 + 1, none⟩ = some (.int .i64 (c.D k)) := BNW.out.cell ((HPB.out.cells k 1 (by omega) (by omega)).trans (by simp [Rc.s9, upN_at])) HG3.out.1 HG3.out.2
              have y2 : wr.cell? ⟨g3, k * 9 + 2, none⟩ = some (.int .i64 (c.A k)) := BNW.out.cell ((HPB.out.cells k 2 (by omega) (by omega)).trans (by simp [Rc.s9, upN_at])) HG3.out.1 HG3.out.2
              have y3 : wr.cell? ⟨g3, k * 9 + 3, none⟩ = some (.int .i64 (c.B k)) := BNW.out.cell ((HPB.out.cells k 3 (by omega) (by omega)).trans (by simp [Rc.s9, upN_at])) HG3.out.1 HG3.out.2
              have y4 : wr.cell? ⟨g3, k * 9 + 4, none⟩ = some (.int .i64 (c.C k)) := BNW.out.cell ((HPB.out.cells k 4 (by omega) (by omega)).trans (by simp [Rc.s9, upN_at])) HG3.out.1 HG3.out.2
              have y5 : wr.cell? ⟨g3, k * 9 + 5, none⟩ = some (.int .u32 (c.X k)) := BNW.out.cell ((HPB.out.cells k 5 (by omega) (by omega)).trans (by simp [Rc.s9, upN_at])) HG3.out.1 HG3.out.2
              have y6 : wr.cell? ⟨g3, k * 9 + 6, none⟩ = some (.slice ar lr cr) := BNW.out.cell ((HPB.out.cells k 6 (by omega) (by omega)).trans (by simp [Rc.s9, upN_at])) HG3.out.1 HG3.out.2
              have y7 : wr.cell? ⟨g3, k * 9 + 7, none⟩ = some (.slice av lv cv) := BNW.out.cell ((HPB.out.cells k 7 (by omega) (by omega)).trans (by simp [Rc.s9, upN_at])) HG3.out.1 HG3.out.2
              have y8 : wr.cell? ⟨g3, k * 9 + 8, none⟩ = some (.int .i64 (c.la k)) := BNW.out.cell ((HPB.out.cells k 8 (by omega) (by omega)).trans (by simp [Rc.s9, upN_at])) HG3.out.1 HG3.out.2
              have HR1 : Hid (∀ v, Below wr.heap.size wr v → ARow v (upN P k (.slice ar lr cr) q) (srt (opsL (c.O q) (c.A q) (c.B q) (c.C q) (c.X q))) ∧ ARow v (upN Q k (.slice av lv cv) q) (wrL (c.O q) (c.D q)) ∧ ARow v (.slice ar lr cr) (srt (opsL (c.O k) (c.A k) (c.B k) (c.C k) (c.X k))) ∧ ARow v (.slice av lv cv) (wrL (c.O k) (c.D k))) := fun v bv => by
                have hB0 := HB0.out
                have a1 := (BNW.out.iown (HPB.out.fx.rd q (by omega)) HPB.out.fx.nq.hB (by omega)).next' bv
                have a2 := (BNW.out.iown (HPB.out.fx.wr q (by omega)) HPB.out.fx.nq.hB (by omega)).next' bv
                have a3 := (BNW.out.iown (HPB.out.fx.rd k (by omega)) HPB.out.fx.nq.hB (by omega)).next' bv
                have a4 := (BNW.out.iown (HPB.out.fx.wr k (by omega)) HPB.out.fx.nq.hB (by omega)).next' bv
                rw [upN_at] at a3 a4
                exact ⟨a1.arow, a2.arow, a3.arow, a4.arow⟩
              generalize hPq : upN P k (.slice ar lr cr) q = pq at x6 HR1
              generalize hQq : upN Q k (.slice av lv cv) q = qq at x7 HR1
              clear hPq hQq
              obtain ⟨⟨pa, pc, rfl, _⟩, ⟨qa, qc, rfl, _⟩, _, _⟩ := HR1.out wr (Below.refl _ _)
              generalize (srt (opsL (c.O q) (c.A q) (c.B q) (c.C q) (c.X q))).length = pl at *
              generalize (wrL (c.O q) (c.D q)).length = ql at *
              have h83 : ∀ v, Below wr.heap.size wr v → Calls Tryd.prog 83 #[.agg #[.int .i64 (c.O k), .int .i64 (c.D k), .int .i64 (c.A k), .int .i64 (c.B k), .int .i64 (c.C k), .int .u32 (c.X k), .slice ar lr cr, .slice av lv cv, .int .i64 (c.la k)], .agg #[.int .i64 (c.O q), .int .i64 (c.D q), .int .i64 (c.A q), .int .i64 (c.B q), .int .i64 (c.C q), .int .u32 (c.X q), .slice pa pl pc, .slice qa ql qc, .int .i64 (c.la q)]] v fun e w' => e = .returned (.int .i64 (if c.nd q k then c.wa q k else 0)) ∧ Below v.heap.size v w' := fun v bv => by
                rw [← wz_nd]
                obtain ⟨a1, a2, a3, a4⟩ := HR1.out v bv
                exact waitfor _ _ _ _ _ _ _ _ _ _ _ _ _ _ _ _ _ v a1 a2 a3 a4
              have y0' : (wr.alloc (.cells #[.int .i64 (c.O q), .int .i64 (c.D q), .int .i64 (c.A q), .int .i64 (c.B q), .int .i64 (c.C q), .int .u32 (c.X q), .slice pa pl pc, .slice qa ql qc, .int .i64 (c.la q)] 101)).cell? ⟨g3, k * 9, none⟩ = _ := cell_nx y0 alloc_b
              have y1' : (wr.alloc (.cells #[.int .i64 (c.O q), .int .i64 (c.D q), .int .i64 (c.A q), .int .i64 (c.B q), .int .i64 (c.C q), .int .u32 (c.X q), .slice pa pl pc, .slice qa ql qc, .int .i64 (c.la q)] 101)).cell? ⟨g3, k * 9 + 1, none⟩ = _ := cell_nx y1 alloc_b
              have y2' : (wr.alloc (.cells #[.int .i64 (c.O q), .int .i64 (c.D q), .int .i64 (c.A q), .int .i64 (c.B q), .int .i64 (c.C q), .int .u32 (c.X q), .slice pa pl pc, .slice qa ql qc, .int .i64 (c.la q)] 101)).cell? ⟨g3, k * 9 + 2, none⟩ = _ := cell_nx y2 alloc_b
              have y3' : (wr.alloc (.cells #[.int .i64 (c.O q), .int .i64 (c.D q), .int .i64 (c.A q), .int .i64 (c.B q), .int .i64 (c.C q), .int .u32 (c.X q), .slice pa pl pc, .slice qa ql qc, .int .i64 (c.la q)] 101)).cell? ⟨g3, k * 9 + 3, none⟩ = _ := cell_nx y3 alloc_b
              have y4' : (wr.alloc (.cells #[.int .i64 (c.O q), .int .i64 (c.D q), .int .i64 (c.A q), .int .i64 (c.B q), .int .i64 (c.C q), .int .u32 (c.X q), .slice pa pl pc, .slice qa ql qc, .int .i64 (c.la q)] 101)).cell? ⟨g3, k * 9 + 4, none⟩ = _ := cell_nx y4 alloc_b
              have y5' : (wr.alloc (.cells #[.int .i64 (c.O q), .int .i64 (c.D q), .int .i64 (c.A q), .int .i64 (c.B q), .int .i64 (c.C q), .int .u32 (c.X q), .slice pa pl pc, .slice qa ql qc, .int .i64 (c.la q)] 101)).cell? ⟨g3, k * 9 + 5, none⟩ = _ := cell_nx y5 alloc_b
              have y6' : (wr.alloc (.cells #[.int .i64 (c.O q), .int .i64 (c.D q), .int .i64 (c.A q), .int .i64 (c.B q), .int .i64 (c.C q), .int .u32 (c.X q), .slice pa pl pc, .slice qa ql qc, .int .i64 (c.la q)] 101)).cell? ⟨g3, k * 9 + 6, none⟩ = _ := cell_nx y6 alloc_b
              have y7' : (wr.alloc (.cells #[.int .i64 (c.O q), .int .i64 (c.D q), .int .i64 (c.A q), .int .i64 (c.B q), .int .i64 (c.C q), .int .u32 (c.X q), .slice pa pl pc, .slice qa ql qc, .int .i64 (c.la q)] 101)).cell? ⟨g3, k * 9 + 7, none⟩ = _ := cell_nx y7 alloc_b
              have y8' : (wr.alloc (.cells #[.int .i64 (c.O q), .int .i64 (c.D q), .int .i64 (c.A q), .int .i64 (c.B q), .int .i64 (c.C q), .int .u32 (c.X q), .slice pa pl pc, .slice qa ql qc, .int .i64 (c.la q)] 101)).cell? ⟨g3, k * 9 + 8, none⟩ = _ := cell_nx y8 alloc_b
              clear y0 y1 y2 y3 y4 y5 y6 y7 y8
              have hwa := c.wa_pos q k
              have HW0 : Hid (c.npk k (q + 1) = c.npk k q ++ (if c.nd q k then [((q : Int), c.wa q k)] else [])) := rfl
              clear HR1
              generalize c.nd q k = bb at h83 HW0
              cases bb
              · have HW : Hid (c.npk k (q + 1) = c.npk k q) := by have := HW0.out; show _ = _; rw [this]; simp
                simp only [Bool.false_eq_true, if_false] at h83
                go_wp2
                go_region_with (go_at_call 83; refine (h83 _ ?_).mono ?_; (focus (first | exact alloc_b | exact (alloc_b (v := wr)).trans (below_drew (Below.refl _ _)) | exact below_drew alloc_b)); rintro e w9 ⟨rfl, b9⟩; (have B9 : Below wr.heap.size wr w9 := by first | exact (alloc_b (v := wr)).trans (b9.mono (alloc_b (v := wr)).size) | exact (below_drew (alloc_b (v := wr))).trans (b9.mono (below_drew (alloc_b (v := wr))).size)); clear b9)
                all_goals
                  have NPN : Hid (Np B w9 nb n k b0 c.np x (c.npk k (q + 1))) := by show Np _ _ _ _ _ _ _ _ _; rw [HW.out]; exact NPW.out.next B9
                  have BNN : Hid (Bn b0 nb wB w9) := BNW.out.below B9 NPW.out.ri.2
                  have OLN : Hid (∀ z, z < k → w9.cell? ⟨nb, z, none⟩ = wB.cell? ⟨nb, z, none⟩) := fun z hz => (B9.cell (p := ⟨nb, z, none⟩) NPW.out.hq).trans (OLW.out z hz)
                  have BWN : Hid (Below (w.alloc (.cells #[.slice none 0 0, .slice none 0 0] 65)).heap.size (w.alloc (.cells #[.slice none 0 0, .slice none 0 0] 65)) w9) := HBX.out.trans (B9.mono HBX.out.size)
                  clear NPW BNW OLW HBX
                  go_wp2
                  go_roundw
                  case rel => exact ⟨q + 1, _, by omega, by go_num, NPN, BNN, OLN, BWN⟩
                  case measure => simp [intOf]; omega
              · have HW : Hid (c.npk k (q + 1) = c.npk k q ++ [((q : Int), c.wa q k)]) := by have := HW0.out; show _ = _; rw [this]; simp
                simp only [if_true] at h83
                have wp0 : (0 : Int) < c.wa q k := by omega
                go_wp2
                go_region_with (go_at_call 83; refine (h83 _ ?_).mono ?_; (focus (first | exact alloc_b | exact (alloc_b (v := wr)).trans (below_drew (Below.refl _ _)) | exact below_drew alloc_b)); rintro e w9 ⟨rfl, b9⟩; (have B9 : Below wr.heap.size wr w9 := by first | exact (alloc_b (v := wr)).trans (b9.mono (alloc_b (v := wr)).size) | exact (below_drew (alloc_b (v := wr))).trans (b9.mono (below_drew (alloc_b (v := wr))).size)); clear b9)
                all_goals
                  have B9d : Below wr.heap.size wr w9.drew := below_drew B9
                  have NPd := Hid.mk (NPW.out.next B9d)
                  have BNd := Hid.mk (BNW.out.below B9d NPW.out.ri.2)
                  have OLd : Hid (∀ z, z < k → w9.drew.cell? ⟨nb, z, none⟩ = wB.cell? ⟨nb, z, none⟩) := fun z hz => (B9d.cell (p := ⟨nb, z, none⟩) NPW.out.hq).trans (OLW.out z hz)
                  have HBd : Hid (Below (w.alloc (.cells #[.slice none 0 0, .slice none 0 0] 65)).heap.size (w.alloc (.cells #[.slice none 0 0, .slice none 0 0] 65)) w9.drew) := HBX.out.trans (B9d.mono HBX.out.size)
                  have hH0 : w9.drew.cell? ⟨rb, 1, none⟩ = some (.slice (some ⟨nb, 0, none⟩) n n) := by have := BNd.out.cell HPB.out.fx.c1 HLb.out HPB.out.fx.ne; rw [HN.out] at this; exact this
                  clear NPW BNW OLW HBX B9 B9d x0 y0' x1 y1' x2 y2' x3 y3' x4 y4' x5 y5' x6 y6' x7 y7' x8 y8'
                  go_wp2
                  generalize hWW : w9.drew = W9 at NPd BNd OLd HBd hH0
                  refine wp_region_held_drew (S := fun v => v.cell? ⟨rb, 1, none⟩ = some (.slice (some ⟨nb, 0, none⟩) n n)) (by kernel_rfl) (by rw [hWW]; exact hH0) (fun hH => ?_)
                  rw [hWW] at hH ⊢
                  clear hWW hH0
                  have NP1 := NPd
                  have NPW := NPd
                  have BNW := BNd
                  have OLW := OLd
                  have HBW9 := HBd
                  clear NPd BNd OLd HBd
                  refine wpAnyH_take (i := 0) (oi := { dst := some 67, op := Op.fieldAddr 65 (Operand.tmp 4) 1, type := 0, pos := "l14_schedule.go:155", after := #[], guard := none }) (v := .pointer (some ⟨rb, 1, none⟩)) rfl (by kernel_rfl) (by kernel_rfl) (by kernel_rfl) (fun _ _ _ h => h) (Or.inl ⟨by rfl, fun w0 hSw => by (go_simp)⟩) hH ?_
                  simp only [Act.put, List.setIfInBounds_toArray, List.set_cons_zero, List.set_cons_succ]
                  refine wpAnyH_take (i := 1) (oi := { dst := some 68, op := Op.load 63 (Operand.tmp 67), type := 63, pos := "l14_schedule.go:155", after := #[{ on := 0, ground := Ground.data }], guard := none }) (v := .slice (some ⟨nb, 0, none⟩) n n) rfl (by kernel_rfl) (by kernel_rfl) (by kernel_rfl) (fun _ _ _ h => h) (Or.inl ⟨by rfl, fun w0 hSw => by ((have h1 : w0.cell? ⟨rb, 1, none⟩ = some (.slice (some ⟨nb, 0, none⟩) n n) := hSw); go_simp)⟩) hH ?_
                  simp only [Act.put, List.setIfInBounds_toArray, List.set_cons_zero, List.set_cons_succ]
                  refine wpAnyH_take (i := 2) (oi := { dst := some 69, op := Op.move (Operand.tmp 6), type := 3, pos := "l14_schedule.go:155", after := #[], guard := none }) (v := .int .i64 (k : Int)) rfl (by kernel_rfl) (by kernel_rfl) (by kernel_rfl) (fun _ _ _ h => h) (Or.inl ⟨by rfl, fun w0 hSw => by (go_simp)⟩) hH ?_
                  simp only [Act.put, List.setIfInBounds_toArray, List.set_cons_zero, List.set_cons_succ]
                  refine wpAnyH_take (i := 3) (oi := { dst := some 70, op := Op.fieldAddr 65 (Operand.tmp 4) 1, type := 0, pos := "l14_schedule.go:155", after := #[], guard := none }) (v := .pointer (some ⟨rb, 1, none⟩)) rfl (by kernel_rfl) (by kernel_rfl) (by kernel_rfl) (fun _ _ _ h => h) (Or.inl ⟨by rfl, fun w0 hSw => by (go_simp)⟩) hH ?_
                  simp only [Act.put, List.setIfInBounds_toArray, List.set_cons_zero, List.set_cons_succ]
                  refine wpAnyH_take (i := 4) (oi := { dst := some 71, op := Op.load 63 (Operand.tmp 70), type := 63, pos := "l14_schedule.go:155", after := #[{ on := 3, ground := Ground.data }], guard := none }) (v := .slice (some ⟨nb, 0, none⟩) n n) rfl (by kernel_rfl) (by kernel_rfl) (by kernel_rfl) (fun _ _ _ h => h) (Or.inl ⟨by rfl, fun w0 hSw => by ((have h1 : w0.cell? ⟨rb, 1, none⟩ = some (.slice (some ⟨nb, 0, none⟩) n n) := hSw); go_simp)⟩) hH ?_
                  simp only [Act.put, List.setIfInBounds_toArray, List.set_cons_zero, List.set_cons_succ]
                  refine wpAnyH_take (i := 5) (oi := { dst := some 72, op := Op.move (Operand.tmp 6), type := 3, pos := "l14_schedule.go:155", after := #[], guard := none }) (v := .int .i64 (k : Int)) rfl (by kernel_rfl) (by kernel_rfl) (by kernel_rfl) (fun _ _ _ h => h) (Or.inl ⟨by rfl, fun w0 hSw => by (go_simp)⟩) hH ?_
                  simp only [Act.put, List.setIfInBounds_toArray, List.set_cons_zero, List.set_cons_succ]
                  refine wpAnyH_take (i := 6) (oi := { dst := some 73, op := Op.indexAddr 63 (Operand.tmp 71) (Operand.tmp 72), type := 0, pos := "l14_schedule.go:155", after := #[{ on := 4, ground := Ground.data }, { on := 5, ground := Ground.data }], guard := none }) (v := .pointer (some ⟨nb, k, none⟩)) rfl (by kernel_rfl) (by kernel_rfl) (by kernel_rfl) (fun _ _ _ h => h) (Or.inl ⟨by rfl, fun w0 hSw => by (go_simp)⟩) hH ?_
                  simp only [Act.put, List.setIfInBounds_toArray, List.set_cons_zero, List.set_cons_succ]
                  refine wpAnyH_take (i := 8) (oi := { dst := some 75, op := Op.move (Operand.tmp 8), type := 3, pos := "l14_schedule.go:155", after := #[], guard := none }) (v := .int .i64 (q : Int)) rfl (by kernel_rfl) (by kernel_rfl) (by kernel_rfl) (fun _ _ _ h => h) (Or.inl ⟨by rfl, fun w0 hSw => by (go_simp)⟩) hH ?_
                  simp only [Act.put, List.setIfInBounds_toArray, List.set_cons_zero, List.set_cons_succ]
                  refine wpAnyH_take (i := 9) (oi := { dst := some 76, op := Op.move (Operand.tmp 10), type := 3, pos := "l14_schedule.go:155", after := #[], guard := none }) (v := .int .i64 (c.wa q k)) rfl (by kernel_rfl) (by kernel_rfl) (by kernel_rfl) (fun _ _ _ h => h) (Or.inl ⟨by rfl, fun w0 hSw => by (go_simp)⟩) hH ?_
                  simp only [Act.put, List.setIfInBounds_toArray, List.set_cons_zero, List.set_cons_succ]
                  refine wpAnyH_take (i := 10) (oi := { dst := some 77, op := Op.build 70 #[(0, Operand.tmp 75), (1, Operand.tmp 76)], type := 70, pos := "l14_schedule.go:155", after := #[{ on := 8, ground := Ground.data }, { on := 9, ground := Ground.data }], guard := none }) (v := .agg #[.int .i64 (q : Int), .int .i64 (c.wa q k)]) rfl (by kernel_rfl) (by kernel_rfl) (by kernel_rfl) (fun _ _ _ h => h) (Or.inl ⟨by rfl, fun w0 hSw => by (go_simp)⟩) hH ?_
                  simp only [Act.put, List.setIfInBounds_toArray, List.set_cons_zero, List.set_cons_succ]
                  refine wpAnyH_ready (rs := [7, 11]) (by kernel_rfl) (by simp) ?_
                  refine (AllReadyH.cons (o := { dst := some 74, op := Op.load 68 (Operand.tmp 73), type := 68, pos := "l14_schedule.go:155", after := #[{ on := 6, ground := Ground.data }], guard := none }) rfl (fun K hK => ?_) (AllReadyH.cons (o := { dst := some 78, op := Op.buildSlice 68 1 #[(0, Operand.tmp 77)], type := 68, pos := "l14_schedule.go:155", after := #[{ on := 10, ground := Ground.data }], guard := none }) rfl (fun K hK => ?_) AllReadyH.nil))
                  · refine step_val x W9 (by rfl) (by have h1 := NP1.out.cur; go_simp) ?_
                    simp only [Act.put, List.setIfInBounds_toArray, List.set_cons_zero, List.set_cons_succ]
                    refine hK.out _ _ hH (fun hH' => ?_)
                    clear hK K
                    replace hH := hH'
                    clear hH'
                    refine wpAnyH_ready (rs := [11]) (by kernel_rfl) (by simp) ?_
                    refine (AllReadyH.cons (o := { dst := some 78, op := Op.buildSlice 68 1 #[(0, Operand.tmp 77)], type := 68, pos := "l14_schedule.go:155", after := #[{ on := 10, ground := Ground.data }], guard := none }) rfl (fun K hK => ?_) AllReadyH.nil)
                    refine step_val (.slice (some ⟨W9.heap.size, 0, none⟩) 1 1) (W9.alloc (.cells #[.int .i64 (q : Int), .int .i64 (c.wa q k)] 70)) (by rfl) (by go_simp) ?_
                    simp only [Act.put, List.setIfInBounds_toArray, List.set_cons_zero, List.set_cons_succ]
                    refine hK.out _ _ (cell_nx hH alloc_b) (fun hH' => ?_)
                    clear hK K
                    replace hH := hH'
                    clear hH'
                    have NP2 : Hid (Np B (W9.alloc (.cells #[.int .i64 (q : Int), .int .i64 (c.wa q k)] 70)) nb n k b0 c.np x (c.npk k q)) := NP1.out.next alloc_b
                    refine wpAnyH_ready (rs := [12]) (by kernel_rfl) (by simp) ?_
                    refine (AllReadyH.cons (o := { dst := some 79, op := Op.call { callee := Callee.builtin Builtin.append, args := #[Operand.tmp 74, Operand.tmp 78], argTypes := #[68, 68] }, type := 68, pos := "l14_schedule.go:155", after := #[{ on := 7, ground := Ground.data }, { on := 11, ground := Ground.data }], guard := none }) rfl (fun K hK => ?_) AllReadyH.nil)
                    refine step_append_lies _ (by rfl) (.tmp 74) (.tmp 78) 68 (by rfl) b0 70 i7 (.agg #[.int .i64 0, .int .i64 0]) 2 16 Tryd.underlying68 hi7 hz70 hz71 hz72 rfl (by decide) x _ _ (by rfl) NP2.out.ri.1 ⟨W9.heap.size, 0, none⟩ 1 1 [.int .i64 (q : Int), .int .i64 (c.wa q k)] (by rfl) rfl (two_new _ _) (two_one _ _) (by decide) (by have := c.npk_len k q; unfold maxLen; omega) (by have := c.npk_len k q; omega) NP2.out.ri.2 _ rfl ?_
                    intro g8 cp8 w12 hown8 hgrow8 hat8 hlt8
                    simp only [Act.put, List.setIfInBounds_toArray, List.set_cons_zero, List.set_cons_succ]
                    obtain ⟨c12, r12⟩ := NP2.out.keep hgrow8 k
                    rw [NP2.out.cur] at c12
                    have o12 : ∀ z, w12.cell? ⟨nb, z, none⟩ = (W9.alloc (.cells #[.int .i64 (q : Int), .int .i64 (c.wa q k)] 70)).cell? ⟨nb, z, none⟩ := fun z => (NP2.out.keep hgrow8 z).1
                    have h12 : w12.cell? ⟨rb, 1, none⟩ = some (.slice (some ⟨nb, 0, none⟩) n n) := (World.cell?_of_block (a := ⟨rb, 1, none⟩) (hgrow8.block rb (by have := NP2.out.ri.2; have := HLb.out; omega) (fun e => by have := (NP2.out.ri.lt rb e.symm).1; have := HLb.out; omega))).trans hH
                    refine hK.out _ _ h12 (fun hH' => ?_)
                    clear hK K
                    replace hH := hH'
                    clear hH' 
                    refine wpAnyH_take (i := 13) (oi := { dst := some 80, op := Op.indexAddr 63 (Operand.tmp 68) (Operand.tmp 69), type := 0, pos := "l14_schedule.go:155", after := #[{ on := 1, ground := Ground.data }, { on := 2, ground := Ground.data }, { on := 0, ground := Ground.phase }, { on := 1, ground := Ground.phase }, { on := 2, ground := Ground.phase }, { on := 3, ground := Ground.phase }, { on := 4, ground := Ground.phase }, { on := 5, ground := Ground.phase }, { on := 6, ground := Ground.phase }, { on := 7, ground := Ground.phase }, { on := 8, ground := Ground.phase }, { on := 9, ground := Ground.phase }, { on := 10, ground := Ground.phase }, { on := 11, ground := Ground.phase }, { on := 12, ground := Ground.phase }], guard := none }) (v := .pointer (some ⟨nb, k, none⟩)) rfl (by kernel_rfl) (by kernel_rfl) (by kernel_rfl) (fun _ _ _ h => h) (Or.inl ⟨by rfl, fun w0 hSw => by (go_simp)⟩) hH ?_
                    simp only [Act.put, List.setIfInBounds_toArray, List.set_cons_zero, List.set_cons_succ]
                    refine wpAnyH_ready (rs := [14]) (by kernel_rfl) (by simp) ?_
                    refine (AllReadyH.cons (o := { dst := none, op := Op.store 68 (Operand.tmp 80) (Operand.tmp 79), type := 0, pos := "l14_schedule.go:155", after := #[{ on := 13, ground := Ground.data }, { on := 12, ground := Ground.data }, { on := 12, ground := Ground.chain }, { on := 0, ground := Ground.phase }, { on := 1, ground := Ground.phase }, { on := 2, ground := Ground.phase }, { on := 3, ground := Ground.phase }, { on := 4, ground := Ground.phase }, { on := 5, ground := Ground.phase }, { on := 6, ground := Ground.phase }, { on := 7, ground := Ground.phase }, { on := 8, ground := Ground.phase }, { on := 9, ground := Ground.phase }, { on := 10, ground := Ground.phase }, { on := 11, ground := Ground.phase }, { on := 12, ground := Ground.phase }], guard := none }) rfl (fun K hK => ?_) AllReadyH.nil)
                    have U8 : Rn b0 w12 (.slice (some ⟨g8, 0, none⟩) ((c.npk k q).length + 1) cp8) (c.npk k q ++ [((q : Int), c.wa q k)]) := ⟨by rw [List.length_append, nl2_app]; exact hown8, Nat.le_trans NP2.out.ri.2 hgrow8.size⟩
                    have NPN : Hid (Np B (w12.setCell ⟨nb, k, none⟩ (.slice (some ⟨g8, 0, none⟩) ((c.npk k q).length + 1) cp8)) nb n k b0 c.np (.slice (some ⟨g8, 0, none⟩) ((c.npk k q).length + 1) cp8) (c.npk k (q + 1))) := by show Np _ _ _ _ _ _ _ _ _; rw [HW.out]; exact NP2.out.push hgrow8 U8 (fun g hg => (NP2.out.ri.lt g hg).1)
                    have BNN : Hid (Bn b0 nb wB (w12.setCell ⟨nb, k, none⟩ (.slice (some ⟨g8, 0, none⟩) ((c.npk k q).length + 1) cp8))) := ((BNW.out.below (show Below W9.heap.size W9 (W9.alloc (.cells #[.int .i64 (q : Int), .int .i64 (c.wa q k)] 70)) from alloc_b) (by have := NPW.out.ri.2; exact this)).grown hgrow8 NP2.out.ri.2 (fun g hg => (NP2.out.ri.lt g hg).1)).set k _
                    have OLN : Hid (∀ z, z < k → (w12.setCell ⟨nb, k, none⟩ (.slice (some ⟨g8, 0, none⟩) ((c.npk k q).length + 1) cp8)).cell? ⟨nb, z, none⟩ = wB.cell? ⟨nb, z, none⟩) := fun z hz => by
                      rw [World.cell?_setCell_other (h := addr_ne (by omega)), o12 z, (show Below W9.heap.size W9 (W9.alloc (.cells #[.int .i64 (q : Int), .int .i64 (c.wa q k)] 70)) from alloc_b).cell (p := ⟨nb, z, none⟩) NPW.out.hq]
                      exact OLW.out z hz
                    have BWN : Hid (Below (w.alloc (.cells #[.slice none 0 0, .slice none 0 0] 65)).heap.size (w.alloc (.cells #[.slice none 0 0, .slice none 0 0] 65)) (w12.setCell ⟨nb, k, none⟩ (.slice (some ⟨g8, 0, none⟩) ((c.npk k q).length + 1) cp8))) := ((HBW9.out.trans ((show Below W9.heap.size W9 (W9.alloc (.cells #[.int .i64 (q : Int), .int .i64 (c.wa q k)] 70)) from alloc_b).mono HBW9.out.size)).grown hgrow8 (by have := HBW9.out.size; have := (show Below W9.heap.size W9 (W9.alloc (.cells #[.int .i64 (q : Int), .int .i64 (c.wa q k)] 70)) from alloc_b).size; omega) (fun g hg => by have := (NP2.out.ri.lt g hg).1; have := HLb.out; have := HLR.out; omega)).setCell (p := ⟨nb, k, none⟩) (by have := HLN.out; show _ ≤ nb; omega) _
                    refine step_skip (w12.setCell ⟨nb, k, none⟩ (.slice (some ⟨g8, 0, none⟩) ((c.npk k q).length + 1) cp8)) (by rfl) (by go_simp) ?_
                    refine hK.out _ _ (by rw [World.cell?_setCell_other (h := addr_ne' (Ne.symm HNE.out))]; exact hH) (fun hH' => ?_)
                    clear hK K hH' 
                    refine wpAnyH_done (by kernel_rfl) ?_ _
                    clear hH U8
                    go_wp2
                    go_roundw
                    case rel => exact ⟨q + 1, _, by omega, by go_num, NPN, BNN, OLN, BWN⟩
                    case measure => simp [intOf]; omega
                  · refine step_val (.slice (some ⟨W9.heap.size, 0, none⟩) 1 1) (W9.alloc (.cells #[.int .i64 (q : Int), .int .i64 (c.wa q k)] 70)) (by rfl) (by go_simp) ?_
                    simp only [Act.put, List.setIfInBounds_toArray, List.set_cons_zero, List.set_cons_succ]
                    refine hK.out _ _ (cell_nx hH alloc_b) (fun hH' => ?_)
                    clear hK K
                    replace hH := hH'
                    clear hH'
                    have NP2 : Hid (Np B (W9.alloc (.cells #[.int .i64 (q : Int), .int .i64 (c.wa q k)] 70)) nb n k b0 c.np x (c.npk k q)) := NP1.out.next alloc_b
                    refine wpAnyH_ready (rs := [7]) (by kernel_rfl) (by simp) ?_
                    refine (AllReadyH.cons (o := { dst := some 74, op := Op.load 68 (Operand.tmp 73), type := 68, pos := "l14_schedule.go:155", after := #[{ on := 6, ground := Ground.data }], guard := none }) rfl (fun K hK => ?_) AllReadyH.nil)
                    refine step_val x (W9.alloc (.cells #[.int .i64 (q : Int), .int .i64 (c.wa q k)] 70)) (by rfl) (by have h1 := NP2.out.cur; go_simp) ?_
                    simp only [Act.put, List.setIfInBounds_toArray, List.set_cons_zero, List.set_cons_succ]
                    refine hK.out _ _ hH (fun hH' => ?_)
                    clear hK K
                    replace hH := hH'
                    clear hH'
                    refine wpAnyH_ready (rs := [12]) (by kernel_rfl) (by simp) ?_
                    refine (AllReadyH.cons (o := { dst := some 79, op := Op.call { callee := Callee.builtin Builtin.append, args := #[Operand.tmp 74, Operand.tmp 78], argTypes := #[68, 68] }, type := 68, pos := "l14_schedule.go:155", after := #[{ on := 7, ground := Ground.data }, { on := 11, ground := Ground.data }], guard := none }) rfl (fun K hK => ?_) AllReadyH.nil)
                    refine step_append_lies _ (by rfl) (.tmp 74) (.tmp 78) 68 (by rfl) b0 70 i7 (.agg #[.int .i64 0, .int .i64 0]) 2 16 Tryd.underlying68 hi7 hz70 hz71 hz72 rfl (by decide) x _ _ (by rfl) NP2.out.ri.1 ⟨W9.heap.size, 0, none⟩ 1 1 [.int .i64 (q : Int), .int .i64 (c.wa q k)] (by rfl) rfl (two_new _ _) (two_one _ _) (by decide) (by have := c.npk_len k q; unfold maxLen; omega) (by have := c.npk_len k q; omega) NP2.out.ri.2 _ rfl ?_
                    intro g8 cp8 w12 hown8 hgrow8 hat8 hlt8
                    simp only [Act.put, List.setIfInBounds_toArray, List.set_cons_zero, List.set_cons_succ]
                    obtain ⟨c12, r12⟩ := NP2.out.keep hgrow8 k
                    rw [NP2.out.cur] at c12
                    have o12 : ∀ z, w12.cell? ⟨nb, z, none⟩ = (W9.alloc (.cells #[.int .i64 (q : Int), .int .i64 (c.wa q k)] 70)).cell? ⟨nb, z, none⟩ := fun z => (NP2.out.keep hgrow8 z).1
                    have h12 : w12.cell? ⟨rb, 1, none⟩ = some (.slice (some ⟨nb, 0, none⟩) n n) := (World.cell?_of_block (a := ⟨rb, 1, none⟩) (hgrow8.block rb (by have := NP2.out.ri.2; have := HLb.out; omega) (fun e => by have := (NP2.out.ri.lt rb e.symm).1; have := HLb.out; omega))).trans hH
                    refine hK.out _ _ h12 (fun hH' => ?_)
                    clear hK K
                    replace hH := hH'
                    clear hH' 
                    refine wpAnyH_take (i := 13) (oi := { dst := some 80, op := Op.indexAddr 63 (Operand.tmp 68) (Operand.tmp 69), type := 0, pos := "l14_schedule.go:155", after := #[{ on := 1, ground := Ground.data }, { on := 2, ground := Ground.data }, { on := 0, ground := Ground.phase }, { on := 1, ground := Ground.phase }, { on := 2, ground := Ground.phase }, { on := 3, ground := Ground.phase }, { on := 4, ground := Ground.phase }, { on := 5, ground := Ground.phase }, { on := 6, ground := Ground.phase }, { on := 7, ground := Ground.phase }, { on := 8, ground := Ground.phase }, { on := 9, ground := Ground.phase }, { on := 10, ground := Ground.phase }, { on := 11, ground := Ground.phase }, { on := 12, ground := Ground.phase }], guard := none }) (v := .pointer (some ⟨nb, k, none⟩)) rfl (by kernel_rfl) (by kernel_rfl) (by kernel_rfl) (fun _ _ _ h => h) (Or.inl ⟨by rfl, fun w0 hSw => by (go_simp)⟩) hH ?_
                    simp only [Act.put, List.setIfInBounds_toArray, List.set_cons_zero, List.set_cons_succ]
                    refine wpAnyH_ready (rs := [14]) (by kernel_rfl) (by simp) ?_
                    refine (AllReadyH.cons (o := { dst := none, op := Op.store 68 (Operand.tmp 80) (Operand.tmp 79), type := 0, pos := "l14_schedule.go:155", after := #[{ on := 13, ground := Ground.data }, { on := 12, ground := Ground.data }, { on := 12, ground := Ground.chain }, { on := 0, ground := Ground.phase }, { on := 1, ground := Ground.phase }, { on := 2, ground := Ground.phase }, { on := 3, ground := Ground.phase }, { on := 4, ground := Ground.phase }, { on := 5, ground := Ground.phase }, { on := 6, ground := Ground.phase }, { on := 7, ground := Ground.phase }, { on := 8, ground := Ground.phase }, { on := 9, ground := Ground.phase }, { on := 10, ground := Ground.phase }, { on := 11, ground := Ground.phase }, { on := 12, ground := Ground.phase }], guard := none }) rfl (fun K hK => ?_) AllReadyH.nil)
                    have U8 : Rn b0 w12 (.slice (some ⟨g8, 0, none⟩) ((c.npk k q).length + 1) cp8) (c.npk k q ++ [((q : Int), c.wa q k)]) := ⟨by rw [List.length_append, nl2_app]; exact hown8, Nat.le_trans NP2.out.ri.2 hgrow8.size⟩
                    have NPN : Hid (Np B (w12.setCell ⟨nb, k, none⟩ (.slice (some ⟨g8, 0, none⟩) ((c.npk k q).length + 1) cp8)) nb n k b0 c.np (.slice (some ⟨g8, 0, none⟩) ((c.npk k q).length + 1) cp8) (c.npk k (q + 1))) := by show Np _ _ _ _ _ _ _ _ _; rw [HW.out]; exact NP2.out.push hgrow8 U8 (fun g hg => (NP2.out.ri.lt g hg).1)
                    have BNN : Hid (Bn b0 nb wB (w12.setCell ⟨nb, k, none⟩ (.slice (some ⟨g8, 0, none⟩) ((c.npk k q).length + 1) cp8))) := ((BNW.out.below (show Below W9.heap.size W9 (W9.alloc (.cells #[.int .i64 (q : Int), .int .i64 (c.wa q k)] 70)) from alloc_b) (by have := NPW.out.ri.2; exact this)).grown hgrow8 NP2.out.ri.2 (fun g hg => (NP2.out.ri.lt g hg).1)).set k _
                    have OLN : Hid (∀ z, z < k → (w12.setCell ⟨nb, k, none⟩ (.slice (some ⟨g8, 0, none⟩) ((c.npk k q).length + 1) cp8)).cell? ⟨nb, z, none⟩ = wB.cell? ⟨nb, z, none⟩) := fun z hz => by
                      rw [World.cell?_setCell_other (h := addr_ne (by omega)), o12 z, (show Below W9.heap.size W9 (W9.alloc (.cells #[.int .i64 (q : Int), .int .i64 (c.wa q k)] 70)) from alloc_b).cell (p := ⟨nb, z, none⟩) NPW.out.hq]
                      exact OLW.out z hz
                    have BWN : Hid (Below (w.alloc (.cells #[.slice none 0 0, .slice none 0 0] 65)).heap.size (w.alloc (.cells #[.slice none 0 0, .slice none 0 0] 65)) (w12.setCell ⟨nb, k, none⟩ (.slice (some ⟨g8, 0, none⟩) ((c.npk k q).length + 1) cp8))) := ((HBW9.out.trans ((show Below W9.heap.size W9 (W9.alloc (.cells #[.int .i64 (q : Int), .int .i64 (c.wa q k)] 70)) from alloc_b).mono HBW9.out.size)).grown hgrow8 (by have := HBW9.out.size; have := (show Below W9.heap.size W9 (W9.alloc (.cells #[.int .i64 (q : Int), .int .i64 (c.wa q k)] 70)) from alloc_b).size; omega) (fun g hg => by have := (NP2.out.ri.lt g hg).1; have := HLb.out; have := HLR.out; omega)).setCell (p := ⟨nb, k, none⟩) (by have := HLN.out; show _ ≤ nb; omega) _
                    refine step_skip (w12.setCell ⟨nb, k, none⟩ (.slice (some ⟨g8, 0, none⟩) ((c.npk k q).length + 1) cp8)) (by rfl) (by go_simp) ?_
                    refine hK.out _ _ (by rw [World.cell?_setCell_other (h := addr_ne' (Ne.symm HNE.out))]; exact hH) (fun hH' => ?_)
                    clear hK K hH' 
                    refine wpAnyH_done (by kernel_rfl) ?_ _
                    clear hH U8
                    go_wp2
                    go_roundw
                    case rel => exact ⟨q + 1, _, by omega, by go_num, NPN, BNN, OLN, BWN⟩
                    case measure => simp [intOf]; omega
            · obtain rfl : k = q := by omega
              have q1 : ¬ (k : Int) < (k : Int) := by omega
              have RON : Hid (Ro c wr rb nb B (k + 1) (upN P k (.slice ar lr cr)) (upN Q k (.slice av lv cv)) (.slice (some ⟨g3, 0, none⟩) (k + 1) cp3) (.slice (some ⟨g4, 0, none⟩) (k + 1) cp4)) := Ro.round HPB.out.fx HPB.out.st HPB.out.la HPB.out.c0 HPB.out.su HPB.out.sl HB0.out BNW.out OLW.out (by rw [HN.out]; exact NPW.out)
              clear NPW BNW OLW HPB
              go_wp2
              go_roundw
              case rel => exact ⟨k + 1, _, _, _, _, by omega, by go_num, rfl, RON, HBX⟩
              case measure => simp [intOf]; omega
    · obtain rfl : n = k := by omega
      have j1 : ¬ (n : Int) < (n : Int) := by omega
      have RA : Hid (RowX (w.alloc (.cells #[.slice none 0 0, .slice none 0 0] 65)).heap.size wr ul (.slice (some ⟨nb, 0, none⟩) n n) c) := by have := Ro.ansX (c := c) (B' := (w.alloc (.cells #[.slice none 0 0, .slice none 0 0] 65)).heap.size) (by rw [HN.out]; exact HRO.out) HLB.out HLN.out; rw [HN.out] at this; exact this
      have k0 := HRO.out.c0
      have k1 : wr.cell? ⟨rb, 1, none⟩ = some (.slice (some ⟨nb, 0, none⟩) n n) := by have := HRO.out.fx.c1; rw [HN.out] at this; exact this
      obtain ⟨r0, r1, s0, s1⟩ := HRC.out _ HB.out
      obtain ⟨ua, uc, rfl⟩ := HRO.out.la.own.row.is
      have BE := HBw.out _ HB.out
      have hz : w.heap.size < (w.alloc (.cells #[.slice none 0 0, .slice none 0 0] 65)).heap.size := by simp
      have RE : Hid (RowA ((wr.setCell ⟨w.heap.size, 0, none⟩ (.slice ua (c.ll n).length uc)).setCell ⟨w.heap.size, 1, none⟩ (.slice (some ⟨nb, 0, none⟩) n n)) (.slice ua (c.ll n).length uc) (.slice (some ⟨nb, 0, none⟩) n n) c) := ((RA.out.but ((Only.refl _ _).setCell _ _) hz).but ((Only.refl _ _).setCell _ _) hz).rowA
      go_wp2
      first
      | exact bodyPost_ret (v := .tuple #[.agg #[.slice ua (c.ll n).length uc, .slice (some ⟨nb, 0, none⟩) n n], .bool true]) (by simp [results, Tryd.results46, go_sem, r0, r1]) rfl ⟨_, _, _, _, _, _, rfl, fun _ => RE.out, (BE.setCell (p := ⟨w.heap.size, 0, none⟩) (Nat.le_refl _) _).setCell (p := ⟨w.heap.size, 1, none⟩) (Nat.le_refl _) _⟩
      | exact bodyPost_ret (v := .tuple #[.agg #[.slice ua (c.ll n).length uc, .slice (some ⟨nb, 0, none⟩) n n], .bool true]) (by simp [results, Tryd.results46, go_sem, r0, r1]) rfl ⟨_, _, _, _, _, _, rfl, RE.out, (BE.setCell (p := ⟨w.heap.size, 0, none⟩) (Nat.le_refl _) _).setCell (p := ⟨w.heap.size, 1, none⟩) (Nat.le_refl _) _⟩
end Go.Proofs.YtcgapochcahknaaDoor
