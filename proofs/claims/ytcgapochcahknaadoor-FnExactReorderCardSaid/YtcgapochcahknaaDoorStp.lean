/- The program's stepOf. -/
import Derived.Test.YtcgapochcahknaaDoorWai
import Derived.Deep.RegionHeld3
namespace Go.Proofs.YtcgapochcahknaaDoor
open Go.ChangeShapes Go.WideShapes Go.ChangeAt Go.RowKit
set_option linter.unusedVariables false
theorem step_val {P : Program} {ops : Array Oper} {o : Oper} {a : Act} {w : World} {K : Act → World → Prop} {Q : Exit → Act → World → Prop} {E : Prop} (v : Value) (w' : World) (hgd : o.guard = none) (hrun : (execOp a.eval o).run P w = .ok (.value v) w') (hK : K (a.put o.dst v) w') : if Region.wanted o (yielded ops a.tmps) = true then Oper.wp P o a w K Q else E := by
  have hw : Region.wanted o (yielded ops a.tmps) = true := by simp [Region.wanted, hgd]
  rw [if_pos hw]
  unfold Oper.wp
  rw [hrun, Oper.upon_value]
  exact hK
theorem step_skip {P : Program} {ops : Array Oper} {o : Oper} {a : Act} {w : World} {K : Act → World → Prop} {Q : Exit → Act → World → Prop} {E : Prop} (w' : World) (hgd : o.guard = none) (hrun : (execOp a.eval o).run P w = .ok .skip w') (hK : K (a.put o.dst undef) w') : if Region.wanted o (yielded ops a.tmps) = true then Oper.wp P o a w K Q else E := by
  have hw : Region.wanted o (yielded ops a.tmps) = true := by simp [Region.wanted, hgd]
  rw [if_pos hw]
  unfold Oper.wp
  rw [hrun, Oper.upon_skip]
  exact hK
theorem IOwn.low {B B' : Nat} {w : World} {v : Value} {L : List Int} (h : IOwn B w v L) (hb : B' ≤ B) : IOwn B' w v L := by
  rcases h with h | ⟨g, c, h1, h2, h3, h4⟩
  · exact Or.inl h
  · exact Or.inr ⟨g, c, h1, h2, Nat.le_trans hb h3, h4⟩
theorem own_lit9 (w : World) (cs : Array Value) (t : TypeId) (h : cs.size = 9) : Own (w.alloc (.cells cs t)) w.heap.size 9 (fun i => cs.getD i undef) := by
  refine ⟨fun i hi => ?_, fun i => ?_, by rw [World.size_alloc]; omega⟩
  · rw [World.cell?_alloc_mark]
    simp [h, hi]
  · rw [World.frozen?_alloc_mark]
    simp
theorem own_set9 {w : World} {g : Nat} {f : Nat → Value} (O : Own w g 9 f) (vs : List Value) (h : vs.length = 9) : Own (w.setCells g 0 vs) g 9 (fun i => vs.getD i (.bool false)) := by
  match vs, h with
  | [a0, a1, a2, a3, a4, a5, a6, a7, a8], _ => exact own_setCells O (fun i => [a0, a1, a2, a3, a4, a5, a6, a7, a8].getD i (.bool false))
theorem size101 : (Tryd.prog.info? 101).map (·.size) = some 9 := by kernel_rfl
theorem below_set9 {B p : Nat} {w w' : World} (h : Below B w w') (hb : B ≤ w'.heap.size) (hp : B ≤ p) (vs : List Value) : Below B w (w'.setCells p 0 vs) := h.trans ((only_setCells p vs 0 w' w' (Only.refl _ _)).below hp hb)
theorem iown_only {B p : Nat} {w w' : World} {v : Value} {L : List Int} (h : IOwn B w v L) (b : Only p w w') (hn : ∀ g, v.ownBlock = some g → g ≠ p) : IOwn B w' v L := by
  rcases h with h | ⟨g, c, rfl, h2, h3, h4⟩
  · exact Or.inl h
  · exact Or.inr ⟨g, c, rfl, h2, h3, h4.but b (hn g rfl)⟩
theorem iown_but9 {B : Nat} {w : World} {v : Value} {L : List Int} (h : IOwn B w v L) (p : Nat) (vs : List Value) (hn : ∀ g, v.ownBlock = some g → g ≠ p) : IOwn B (w.setCells p 0 vs) v L := by
  rcases h with h | ⟨g, c, rfl, h2, h3, h4⟩
  · exact Or.inl h
  · exact Or.inr ⟨g, c, rfl, h2, h3, h4.but (only_setCells p vs 0 w w (Only.refl _ _)) (hn g rfl)⟩
theorem nine_one (o d a b c x t : Int) (r v : Option Addr) (rl rc vl vc : Nat) : ∀ i, (Value.oneCell' ([Value.int .i64 o, .int .i64 d, .int .i64 a, .int .i64 b, .int .i64 c, .int .u32 x, .slice r rl rc, .slice v vl vc, .int .i64 t].getD i (.bool false))) = true := fun i => by
  match i with
  | 0 => rfl
  | 1 => rfl
  | 2 => rfl
  | 3 => rfl
  | 4 => rfl
  | 5 => rfl
  | 6 => rfl
  | 7 => rfl
  | 8 => rfl
  | (_ + 9) => rfl
set_option maxRecDepth 100000 in
set_option maxHeartbeats 8000000 in
theorem stepof (o d a b c x : Int) (w : World) (G : Forms w) (h : GI o d a b c x) : Calls Tryd.prog 82 #[.agg #[.int .i64 o, .int .i64 d, .int .i64 a, .int .i64 b, .int .i64 c, .int .u32 x]] w fun e w' => ∃ r v, e = .returned (.agg #[.int .i64 o, .int .i64 d, .int .i64 a, .int .i64 b, .int .i64 c, .int .u32 x, r, v, .int .i64 (latV o x)]) ∧ IOwn w.heap.size w' r (srt (opsL o a b c x)) ∧ IOwn w.heap.size w' v (wrL o d) ∧ Below w.heap.size w w' := by
  have BW : Below w.heap.size w ((w.alloc (.cells #[.int .i64 o, .int .i64 d, .int .i64 a, .int .i64 b, .int .i64 c, .int .u32 x] 35)).alloc (.cells #[.int .i64 0, .int .i64 0, .int .i64 0, .int .i64 0, .int .i64 0, .int .u32 0, .slice none 0 0, .slice none 0 0, .int .i64 0] 101)) := ((Below.refl _ _).alloc (Nat.le_refl _) _).alloc (by simp) _
  have HC : Hid (∀ u, Below ((w.alloc (.cells #[.int .i64 o, .int .i64 d, .int .i64 a, .int .i64 b, .int .i64 c, .int .u32 x] 35)).alloc (.cells #[.int .i64 0, .int .i64 0, .int .i64 0, .int .i64 0, .int .i64 0, .int .u32 0, .slice none 0 0, .slice none 0 0, .int .i64 0] 101)).heap.size ((w.alloc (.cells #[.int .i64 o, .int .i64 d, .int .i64 a, .int .i64 b, .int .i64 c, .int .u32 x] 35)).alloc (.cells #[.int .i64 0, .int .i64 0, .int .i64 0, .int .i64 0, .int .i64 0, .int .u32 0, .slice none 0 0, .slice none 0 0, .int .i64 0] 101)) u → (u.cell? ⟨w.heap.size, 0, none⟩ = some (.int .i64 o) ∧ u.cell? ⟨w.heap.size, 1, none⟩ = some (.int .i64 d) ∧ u.cell? ⟨w.heap.size, 2, none⟩ = some (.int .i64 a) ∧ u.cell? ⟨w.heap.size, 3, none⟩ = some (.int .i64 b) ∧ u.cell? ⟨w.heap.size, 4, none⟩ = some (.int .i64 c) ∧ u.cell? ⟨w.heap.size, 5, none⟩ = some (.int .u32 x)) ∧ Below w.heap.size w u) := fun u k => by
    have q1 : w.heap.size < ((w.alloc (.cells #[.int .i64 o, .int .i64 d, .int .i64 a, .int .i64 b, .int .i64 c, .int .u32 x] 35)).alloc (.cells #[.int .i64 0, .int .i64 0, .int .i64 0, .int .i64 0, .int .i64 0, .int .u32 0, .slice none 0 0, .slice none 0 0, .int .i64 0] 101)).heap.size := by simp; omega
    refine ⟨⟨?_, ?_, ?_, ?_, ?_, ?_⟩, BW.trans (k.mono BW.size)⟩
    all_goals
      rw [k.cell (p := ⟨w.heap.size, _, none⟩) q1]
      simp
  have HRC : Hid (∀ u, Below ((w.alloc (.cells #[.int .i64 o, .int .i64 d, .int .i64 a, .int .i64 b, .int .i64 c, .int .u32 x] 35)).alloc (.cells #[.int .i64 0, .int .i64 0, .int .i64 0, .int .i64 0, .int .i64 0, .int .u32 0, .slice none 0 0, .slice none 0 0, .int .i64 0] 101)).heap.size ((w.alloc (.cells #[.int .i64 o, .int .i64 d, .int .i64 a, .int .i64 b, .int .i64 c, .int .u32 x] 35)).alloc (.cells #[.int .i64 0, .int .i64 0, .int .i64 0, .int .i64 0, .int .i64 0, .int .u32 0, .slice none 0 0, .slice none 0 0, .int .i64 0] 101)) u → Own u (w.heap.size + 1) 9 (fun i => (#[.int .i64 0, .int .i64 0, .int .i64 0, .int .i64 0, .int .i64 0, .int .u32 0, .slice none 0 0, .slice none 0 0, .int .i64 0]).getD i undef)) := fun u k => by
    have := own_lit9 (w.alloc (.cells #[.int .i64 o, .int .i64 d, .int .i64 a, .int .i64 b, .int .i64 c, .int .u32 x] 35)) #[.int .i64 0, .int .i64 0, .int .i64 0, .int .i64 0, .int .i64 0, .int .u32 0, .slice none 0 0, .slice none 0 0, .int .i64 0] 101 rfl
    rw [World.size_alloc] at this
    exact this.next k
  have h109 : ∀ u, Below ((w.alloc (.cells #[.int .i64 o, .int .i64 d, .int .i64 a, .int .i64 b, .int .i64 c, .int .u32 x] 35)).alloc (.cells #[.int .i64 0, .int .i64 0, .int .i64 0, .int .i64 0, .int .i64 0, .int .u32 0, .slice none 0 0, .slice none 0 0, .int .i64 0] 101)).heap.size ((w.alloc (.cells #[.int .i64 o, .int .i64 d, .int .i64 a, .int .i64 b, .int .i64 c, .int .u32 x] 35)).alloc (.cells #[.int .i64 0, .int .i64 0, .int .i64 0, .int .i64 0, .int .i64 0, .int .u32 0, .slice none 0 0, .slice none 0 0, .int .i64 0] 101)) u → Calls Tryd.prog 109 #[.agg #[.int .i64 o, .int .i64 d, .int .i64 a, .int .i64 b, .int .i64 c, .int .u32 x]] u fun e w' => ∃ z, e = .returned z ∧ (IOwn u.heap.size w' z (srt (opsL o a b c x)) ∧ Below u.heap.size u w') := fun u k => by
    have e : rdL o d a b c x = srt (opsL o a b c x) := by unfold rdL; rw [h.2]; rfl
    rw [← e]
    exact reads7 o d a b c x u (G.below (HC.out u k).2) h.1.1 h.1.2
  have h18 : ∀ u, Below ((w.alloc (.cells #[.int .i64 o, .int .i64 d, .int .i64 a, .int .i64 b, .int .i64 c, .int .u32 x] 35)).alloc (.cells #[.int .i64 0, .int .i64 0, .int .i64 0, .int .i64 0, .int .i64 0, .int .u32 0, .slice none 0 0, .slice none 0 0, .int .i64 0] 101)).heap.size ((w.alloc (.cells #[.int .i64 o, .int .i64 d, .int .i64 a, .int .i64 b, .int .i64 c, .int .u32 x] 35)).alloc (.cells #[.int .i64 0, .int .i64 0, .int .i64 0, .int .i64 0, .int .i64 0, .int .u32 0, .slice none 0 0, .slice none 0 0, .int .i64 0] 101)) u → Calls Tryd.prog 18 #[.agg #[.int .i64 o, .int .i64 d, .int .i64 a, .int .i64 b, .int .i64 c, .int .u32 x]] u fun e w' => ∃ z, e = .returned z ∧ (z = .int .i64 (latV o x) ∧ Below u.heap.size u w') := fun u k => (platency o d a b c x u (G.below (HC.out u k).2) h.1.1 h.1.2).mono fun e w' ⟨h1, h2⟩ => ⟨_, h1, by unfold laV; rw [h.2]; rfl, h2⟩
  have h97 := fun u => writes85 o u
  have HS0 : Below ((w.alloc (.cells #[.int .i64 o, .int .i64 d, .int .i64 a, .int .i64 b, .int .i64 c, .int .u32 x] 35)).alloc (.cells #[.int .i64 0, .int .i64 0, .int .i64 0, .int .i64 0, .int .i64 0, .int .u32 0, .slice none 0 0, .slice none 0 0, .int .i64 0] 101)).heap.size ((w.alloc (.cells #[.int .i64 o, .int .i64 d, .int .i64 a, .int .i64 b, .int .i64 c, .int .u32 x] 35)).alloc (.cells #[.int .i64 0, .int .i64 0, .int .i64 0, .int .i64 0, .int .i64 0, .int .u32 0, .slice none 0 0, .slice none 0 0, .int .i64 0] 101)) ((w.alloc (.cells #[.int .i64 o, .int .i64 d, .int .i64 a, .int .i64 b, .int .i64 c, .int .u32 x] 35)).alloc (.cells #[.int .i64 0, .int .i64 0, .int .i64 0, .int .i64 0, .int .i64 0, .int .u32 0, .slice none 0 0, .slice none 0 0, .int .i64 0] 101)).drew := below_drew (Below.refl _ _)
  clear G h
  go_enter Tryd.func82, Tryd.ntmps82
  go_wp2
  generalize hWW : ((w.alloc (.cells #[.int .i64 o, .int .i64 d, .int .i64 a, .int .i64 b, .int .i64 c, .int .u32 x] 35)).alloc (.cells #[.int .i64 0, .int .i64 0, .int .i64 0, .int .i64 0, .int .i64 0, .int .u32 0, .slice none 0 0, .slice none 0 0, .int .i64 0] 101)).drew = W5 at HS0
  refine wp_region_held_drew (S := fun u => Below ((w.alloc (.cells #[.int .i64 o, .int .i64 d, .int .i64 a, .int .i64 b, .int .i64 c, .int .u32 x] 35)).alloc (.cells #[.int .i64 0, .int .i64 0, .int .i64 0, .int .i64 0, .int .i64 0, .int .u32 0, .slice none 0 0, .slice none 0 0, .int .i64 0] 101)).heap.size ((w.alloc (.cells #[.int .i64 o, .int .i64 d, .int .i64 a, .int .i64 b, .int .i64 c, .int .u32 x] 35)).alloc (.cells #[.int .i64 0, .int .i64 0, .int .i64 0, .int .i64 0, .int .i64 0, .int .u32 0, .slice none 0 0, .slice none 0 0, .int .i64 0] 101)) u) (by kernel_rfl) (by rw [hWW]; exact HS0) (fun hH => ?_)
  rw [hWW] at hH ⊢
  clear HS0 hWW
  refine wpAnyH_take (i := 0) (oi := { dst := some 4, op := Op.load 35 (Operand.tmp 1), type := 35, pos := "l14_schedule.go:167", after := #[], guard := none }) (v := .agg #[.int .i64 o, .int .i64 d, .int .i64 a, .int .i64 b, .int .i64 c, .int .u32 x]) rfl (by kernel_rfl) (by kernel_rfl) (by kernel_rfl) (fun _ _ _ h => h) (Or.inl ⟨by rfl, fun w0 hSw => by ((obtain ⟨⟨d0, d1, d2, d3, d4, d5⟩, _⟩ := HC.out _ hSw); go_simp)⟩) hH ?_
  simp only [Act.put, List.setIfInBounds_toArray, List.set_cons_zero, List.set_cons_succ]
  refine wpAnyH_take (i := 1) (oi := { dst := some 5, op := Op.load 35 (Operand.tmp 1), type := 35, pos := "l14_schedule.go:167", after := #[], guard := none }) (v := .agg #[.int .i64 o, .int .i64 d, .int .i64 a, .int .i64 b, .int .i64 c, .int .u32 x]) rfl (by kernel_rfl) (by kernel_rfl) (by kernel_rfl) (fun _ _ _ h => h) (Or.inl ⟨by rfl, fun w0 hSw => by ((obtain ⟨⟨d0, d1, d2, d3, d4, d5⟩, _⟩ := HC.out _ hSw); go_simp)⟩) hH ?_
  simp only [Act.put, List.setIfInBounds_toArray, List.set_cons_zero, List.set_cons_succ]
  refine wpAnyH_take (i := 3) (oi := { dst := some 7, op := Op.load 35 (Operand.tmp 1), type := 35, pos := "l14_schedule.go:167", after := #[], guard := none }) (v := .agg #[.int .i64 o, .int .i64 d, .int .i64 a, .int .i64 b, .int .i64 c, .int .u32 x]) rfl (by kernel_rfl) (by kernel_rfl) (by kernel_rfl) (fun _ _ _ h => h) (Or.inl ⟨by rfl, fun w0 hSw => by ((obtain ⟨⟨d0, d1, d2, d3, d4, d5⟩, _⟩ := HC.out _ hSw); go_simp)⟩) hH ?_
  simp only [Act.put, List.setIfInBounds_toArray, List.set_cons_zero, List.set_cons_succ]
  refine wpAnyH_ready (rs := [2, 6]) (by kernel_rfl) (by simp) ?_
  refine (AllReadyH.cons (o := { dst := some 6, op := Op.call { callee := Callee.value (Operand.func 109), args := #[Operand.tmp 5], argTypes := #[35] }, type := 45, pos := "l14_schedule.go:167", after := #[{ on := 1, ground := Ground.data }], guard := none }) rfl (fun K hK => ?_) (AllReadyH.cons (o := { dst := some 3, op := Op.alloc 101, type := 0, pos := "l14_schedule.go:167", after := #[], guard := none }) rfl (fun K hK => ?_) AllReadyH.nil))
  · refine step_callC 109 #[.agg #[.int .i64 o, .int .i64 d, .int .i64 a, .int .i64 b, .int .i64 c, .int .u32 x]] (fun z v w' => IOwn v.heap.size w' z (srt (opsL o a b c x)) ∧ Below v.heap.size v w') (by rfl) (by go_simp) (h109 _ hH) ?_
    rintro z9 w9 ⟨I9, B9⟩
    obtain ⟨ad9, cp9, rfl⟩ := I9.row.is
    have HNR : ∀ g, (Value.slice ad9 (srt (opsL o a b c x)).length cp9).ownBlock = some g → g ≠ w.heap.size + 1 := fun g hg => by have h1 := (I9.blk g hg).1; have h2 := hH.size; simp only [World.size_alloc] at h2; omega
    have I9' : IOwn w.heap.size w9 (.slice ad9 (srt (opsL o a b c x)).length cp9) (srt (opsL o a b c x)) := I9.low (HC.out _ hH).2.size
    simp only [Act.put, List.setIfInBounds_toArray, List.set_cons_zero, List.set_cons_succ]
    refine hK.out _ _ (hH.trans (B9.mono hH.size)) (fun hH' => ?_)
    clear hK K
    replace hH := hH'
    clear hH' 
    refine wpAnyH_ready (rs := [4, 6]) (by kernel_rfl) (by simp) ?_
    refine (AllReadyH.cons (o := { dst := some 8, op := Op.call { callee := Callee.value (Operand.func 18), args := #[Operand.tmp 7], argTypes := #[35] }, type := 3, pos := "l14_schedule.go:167", after := #[{ on := 3, ground := Ground.data }, { on := 2, ground := Ground.chain }], guard := none }) rfl (fun K hK => ?_) (AllReadyH.cons (o := { dst := some 3, op := Op.alloc 101, type := 0, pos := "l14_schedule.go:167", after := #[], guard := none }) rfl (fun K hK => ?_) AllReadyH.nil))
    · refine step_callC 18 #[.agg #[.int .i64 o, .int .i64 d, .int .i64 a, .int .i64 b, .int .i64 c, .int .u32 x]] (fun z v w' => z = .int .i64 (latV o x) ∧ Below v.heap.size v w') (by rfl) (by go_simp) (h18 _ hH) ?_
      rintro z8 w8 ⟨rfl, B8⟩
      have I8 := I9'.next' B8
      simp only [Act.put, List.setIfInBounds_toArray, List.set_cons_zero, List.set_cons_succ]
      refine hK.out _ _ (hH.trans (B8.mono hH.size)) (fun hH' => ?_)
      clear hK K
      replace hH := hH'
      clear hH' 
      refine wpAnyH_take (i := 5) (oi := { dst := some 9, op := Op.build 101 #[(0, Operand.tmp 4), (1, Operand.tmp 6), (3, Operand.tmp 8)], type := 101, pos := "l14_schedule.go:167", after := #[{ on := 0, ground := Ground.data }, { on := 2, ground := Ground.data }, { on := 4, ground := Ground.data }], guard := none }) (v := .agg #[.int .i64 o, .int .i64 d, .int .i64 a, .int .i64 b, .int .i64 c, .int .u32 x, .slice ad9 (srt (opsL o a b c x)).length cp9, .slice none 0 0, .int .i64 (latV o x)]) rfl (by kernel_rfl) (by kernel_rfl) (by kernel_rfl) (fun _ _ _ h => h) (Or.inl ⟨by rfl, fun w0 hSw => by (go_simp)⟩) hH ?_
      simp only [Act.put, List.setIfInBounds_toArray, List.set_cons_zero, List.set_cons_succ]
      refine wpAnyH_ready (rs := [6]) (by kernel_rfl) (by simp) ?_
      refine (AllReadyH.cons (o := { dst := some 3, op := Op.alloc 101, type := 0, pos := "l14_schedule.go:167", after := #[], guard := none }) rfl (fun K hK => ?_) AllReadyH.nil)
      obtain ⟨sb, hsb⟩ : ∃ sb, w8.heap.size = sb := ⟨_, rfl⟩
      refine step_val (.pointer (some ⟨w8.heap.size, 0, none⟩)) (w8.alloc (.cells #[.int .i64 0, .int .i64 0, .int .i64 0, .int .i64 0, .int .i64 0, .int .u32 0, .slice none 0 0, .slice none 0 0, .int .i64 0] 101)) (by rfl) (by go_simp) ?_
      simp only [Act.put, List.setIfInBounds_toArray, List.set_cons_zero, List.set_cons_succ]
      have Z9 : Own (w8.alloc (.cells #[.int .i64 0, .int .i64 0, .int .i64 0, .int .i64 0, .int .i64 0, .int .u32 0, .slice none 0 0, .slice none 0 0, .int .i64 0] 101)) w8.heap.size 9 (fun i => (#[.int .i64 0, .int .i64 0, .int .i64 0, .int .i64 0, .int .i64 0, .int .u32 0, .slice none 0 0, .slice none 0 0, .int .i64 0]).getD i undef) := own_lit9 w8 _ _ rfl
      have zb : w.heap.size ≤ w8.heap.size := (HC.out _ hH).2.size
      have HNE : ∀ g, (Value.slice ad9 (srt (opsL o a b c x)).length cp9).ownBlock = some g → g ≠ sb := fun g hg => by have h1 := (I8.blk g hg).2; omega
      have ze : ((w.alloc (.cells #[.int .i64 o, .int .i64 d, .int .i64 a, .int .i64 b, .int .i64 c, .int .u32 x] 35)).alloc (.cells #[.int .i64 0, .int .i64 0, .int .i64 0, .int .i64 0, .int .i64 0, .int .u32 0, .slice none 0 0, .slice none 0 0, .int .i64 0] 101)).heap.size ≤ w8.heap.size := hH.size
      have I7 := I8.next' (alloc_b (o := .cells #[.int .i64 0, .int .i64 0, .int .i64 0, .int .i64 0, .int .i64 0, .int .u32 0, .slice none 0 0, .slice none 0 0, .int .i64 0] 101))
      refine hK.out _ _ (hH.trans (alloc_b.mono hH.size)) (fun hH' => ?_)
      clear hK K
      replace hH := hH'
      clear hH'
      rw [hsb] at Z9 zb ze ⊢
      obtain ⟨wa, hwa⟩ : ∃ wa, w8.alloc (.cells #[.int .i64 0, .int .i64 0, .int .i64 0, .int .i64 0, .int .i64 0, .int .u32 0, .slice none 0 0, .slice none 0 0, .int .i64 0] 101) = wa := ⟨_, rfl⟩
      rw [hwa] at Z9 hH ⊢
      rw [hwa] at I7
      clear hwa hsb
      refine wpAnyH_ready (rs := [7]) (by kernel_rfl) (by simp) ?_
      refine (AllReadyH.cons (o := { dst := none, op := Op.store 101 (Operand.tmp 3) (Operand.tmp 9), type := 0, pos := "l14_schedule.go:167", after := #[{ on := 6, ground := Ground.data }, { on := 5, ground := Ground.data }, { on := 4, ground := Ground.chain }, { on := 0, ground := Ground.phase }, { on := 1, ground := Ground.phase }, { on := 2, ground := Ground.phase }, { on := 3, ground := Ground.phase }, { on := 4, ground := Ground.phase }, { on := 5, ground := Ground.phase }, { on := 6, ground := Ground.phase }], guard := none }) rfl (fun K hK => ?_) AllReadyH.nil)
      have y0 := Z9.cell 0 (by omega)
      have y1 := Z9.cell 1 (by omega)
      have y2 := Z9.cell 2 (by omega)
      have y3 := Z9.cell 3 (by omega)
      have y4 := Z9.cell 4 (by omega)
      have y5 := Z9.cell 5 (by omega)
      have y6 := Z9.cell 6 (by omega)
      have y7 := Z9.cell 7 (by omega)
      have y8 := Z9.cell 8 (by omega)
      have fz := Z9.free
      have Zn := own_set9 Z9 [.int .i64 o, .int .i64 d, .int .i64 a, .int .i64 b, .int .i64 c, .int .u32 x, .slice ad9 (srt (opsL o a b c x)).length cp9, .slice none 0 0, .int .i64 (latV o x)] rfl
      have hn := below_set9 (p := sb) hH hH.size ze [.int .i64 o, .int .i64 d, .int .i64 a, .int .i64 b, .int .i64 c, .int .u32 x, .slice ad9 (srt (opsL o a b c x)).length cp9, .slice none 0 0, .int .i64 (latV o x)]
      have In := iown_but9 I7 sb [.int .i64 o, .int .i64 d, .int .i64 a, .int .i64 b, .int .i64 c, .int .u32 x, .slice ad9 (srt (opsL o a b c x)).length cp9, .slice none 0 0, .int .i64 (latV o x)] HNE
      refine step_skip (wa.setCells sb 0 [.int .i64 o, .int .i64 d, .int .i64 a, .int .i64 b, .int .i64 c, .int .u32 x, .slice ad9 (srt (opsL o a b c x)).length cp9, .slice none 0 0, .int .i64 (latV o x)]) (by rfl) (by go_simp; rfl) ?_
      refine hK.out _ _ hn (fun hH' => ?_)
      clear hK K hH' 
      refine wpAnyH_done (by kernel_rfl) ?_ _
      obtain ⟨w6, hw6⟩ : ∃ w6, wa.setCells sb 0 [.int .i64 o, .int .i64 d, .int .i64 a, .int .i64 b, .int .i64 c, .int .u32 x, .slice ad9 (srt (opsL o a b c x)).length cp9, .slice none 0 0, .int .i64 (latV o x)] = w6 := ⟨_, rfl⟩
      rw [hw6] at Zn hn In ⊢
      clear hw6 y0 y1 y2 y3 y4 y5 y6 y7 y8 fz hH Z9
      cases hnm : nmd o 0
      · rw [hnm] at h97
        have HWL : Hid (wrL o d = []) := by show wrL o d = []; unfold wrL; rw [hnm]; rfl
        clear hnm
        obtain ⟨⟨d0, d1, d2, d3, d4, d5⟩, _⟩ := HC.out _ hn
        go_wp2_with (first | (go_at_call 97; refine (h97 _).mono ?_; rintro e w7 ⟨rfl, B7⟩; (have hn7 := hn.trans (B7.mono hn.size)); (have ZL := Zn.next B7); (have OL := HRC.out _ hn7); (have I7 := In.next' B7); (obtain ⟨⟨d0, d1, d2, d3, d4, d5⟩, BB⟩ := HC.out _ hn7)) | (refine wpList_load_own rfl 101 _ rfl sb rfl 9 _ _ ZL Tryd.underlying101 rfl size101 ?_) | (refine wpList_store_own rfl 101 _ _ rfl (w.heap.size + 1) rfl 9 _ _ rfl OL (nine_one _ _ _ _ _ _ _ _ _ _ _ _ _) size101 ?_; intro w8 O8 K8))
        (try simp only [Exit.inBlock, Exit.then])
        refine bodyPost_ret (results_own rfl _ _ (w.heap.size + 1) 9 _ _ rfl O8 Tryd.underlying101 rfl size101) rfl ?_
        refine ⟨_, _, rfl, iown_only I7 K8 ?_, by rw [HWL.out]; exact Or.inl ⟨rfl, rfl⟩, BB.trans (K8.below (by omega) BB.size)⟩
        exact fun g hg e => HNR g hg e
      · rw [hnm] at h97
        have HWL : Hid (wrL o d = [d]) := by show wrL o d = [d]; unfold wrL; rw [hnm]; rfl
        clear hnm
        obtain ⟨⟨d0, d1, d2, d3, d4, d5⟩, _⟩ := HC.out _ hn
        go_wp2_with (first | (go_at_call 97; refine (h97 _).mono ?_; rintro e w7 ⟨rfl, B7⟩; (have hn7 := hn.trans (B7.mono hn.size)); (have Z7 := Zn.next B7); (have I7 := In.next' B7); (obtain ⟨⟨d0, d1, d2, d3, d4, d5⟩, BB⟩ := HC.out _ hn7); (have s7 := Z7.hi); (have c7 : w7.cell? ⟨sb, 7, none⟩ = some (.slice none 0 0) := Z7.cell 7 (by omega)); (have f7 := Z7.free 7); (have ON : Only sb w7 (w7.setCell ⟨sb, 7, none⟩ (.slice (some ⟨w7.heap.size, 0, none⟩) 1 1)) := (Only.refl _ _).setCell _ _); (have ZL := (Z7.set 7 (.slice (some ⟨w7.heap.size, 0, none⟩) 1 1) (g := fun i => [.int .i64 o, .int .i64 d, .int .i64 a, .int .i64 b, .int .i64 c, .int .u32 x, .slice ad9 (srt (opsL o a b c x)).length cp9, .slice (some ⟨w7.heap.size, 0, none⟩) 1 1, .int .i64 (latV o x)].getD i (.bool false)) (by omega) (fun i hi => by match i, hi with | 0, _ => rfl | 1, _ => rfl | 2, _ => rfl | 3, _ => rfl | 4, _ => rfl | 5, _ => rfl | 6, _ => rfl | 7, _ => rfl | 8, _ => rfl)).next (alloc_b (o := .cells #[.int .i64 d] 3))); (have hnS := hn7.trans (ON.below ze hn7.size)); (have hn8 := hnS.trans ((alloc_b (o := .cells #[.int .i64 d] 3)).mono hnS.size)); (have OL := HRC.out _ hn8); (have I8 := (iown_only I7 ON HNE).next' (alloc_b (o := .cells #[.int .i64 d] 3)))) | (refine wpList_load_own rfl 101 _ rfl sb rfl 9 _ _ ZL Tryd.underlying101 rfl size101 ?_) | (refine wpList_store_own rfl 101 _ _ rfl (w.heap.size + 1) rfl 9 _ _ rfl OL (nine_one _ _ _ _ _ _ _ _ _ _ _ _ _) size101 ?_; intro w8 O8 K8))
        (try simp only [Exit.inBlock, Exit.then])
        refine bodyPost_ret (results_own rfl _ _ (w.heap.size + 1) 9 _ _ rfl O8 Tryd.underlying101 rfl size101) rfl ?_
        have B8 := (HC.out _ hn8).2
        have DN : Own ((w7.setCell ⟨sb, 7, none⟩ (.slice (some ⟨w7.heap.size, 0, none⟩) 1 1)).alloc (.cells #[.int .i64 d] 3)) w7.heap.size 1 (fun i => .int .i64 ([d].getD i 0)) := by
          have h1 := ints_new (w7.setCell ⟨sb, 7, none⟩ (.slice (some ⟨w7.heap.size, 0, none⟩) 1 1)) [d]
          have h2 : (w7.setCell ⟨sb, 7, none⟩ (.slice (some ⟨w7.heap.size, 0, none⟩) 1 1)).heap.size = w7.heap.size := by simp
          rw [h2] at h1
          exact h1
        refine ⟨_, _, rfl, iown_only I8 K8 (fun g hg e => HNR g hg e), by rw [HWL.out]; exact Or.inr ⟨w7.heap.size, 1, rfl, Nat.le_refl _, BB.size, DN.but K8 (by have h2 := hn7.size; simp only [World.size_alloc] at h2; omega)⟩, B8.trans (K8.below (by omega) B8.size)⟩
    · obtain ⟨sb, hsb⟩ : ∃ sb, w9.heap.size = sb := ⟨_, rfl⟩
      refine step_val (.pointer (some ⟨w9.heap.size, 0, none⟩)) (w9.alloc (.cells #[.int .i64 0, .int .i64 0, .int .i64 0, .int .i64 0, .int .i64 0, .int .u32 0, .slice none 0 0, .slice none 0 0, .int .i64 0] 101)) (by rfl) (by go_simp) ?_
      simp only [Act.put, List.setIfInBounds_toArray, List.set_cons_zero, List.set_cons_succ]
      have Z9 : Own (w9.alloc (.cells #[.int .i64 0, .int .i64 0, .int .i64 0, .int .i64 0, .int .i64 0, .int .u32 0, .slice none 0 0, .slice none 0 0, .int .i64 0] 101)) w9.heap.size 9 (fun i => (#[.int .i64 0, .int .i64 0, .int .i64 0, .int .i64 0, .int .i64 0, .int .u32 0, .slice none 0 0, .slice none 0 0, .int .i64 0]).getD i undef) := own_lit9 w9 _ _ rfl
      have zb : w.heap.size ≤ w9.heap.size := (HC.out _ hH).2.size
      have HNE : ∀ g, (Value.slice ad9 (srt (opsL o a b c x)).length cp9).ownBlock = some g → g ≠ sb := fun g hg => by have h1 := (I9'.blk g hg).2; omega
      have ze : ((w.alloc (.cells #[.int .i64 o, .int .i64 d, .int .i64 a, .int .i64 b, .int .i64 c, .int .u32 x] 35)).alloc (.cells #[.int .i64 0, .int .i64 0, .int .i64 0, .int .i64 0, .int .i64 0, .int .u32 0, .slice none 0 0, .slice none 0 0, .int .i64 0] 101)).heap.size ≤ w9.heap.size := hH.size
      have I7 := I9'.next' (alloc_b (o := .cells #[.int .i64 0, .int .i64 0, .int .i64 0, .int .i64 0, .int .i64 0, .int .u32 0, .slice none 0 0, .slice none 0 0, .int .i64 0] 101))
      refine hK.out _ _ (hH.trans (alloc_b.mono hH.size)) (fun hH' => ?_)
      clear hK K
      replace hH := hH'
      clear hH'
      rw [hsb] at Z9 zb ze ⊢
      obtain ⟨wa, hwa⟩ : ∃ wa, w9.alloc (.cells #[.int .i64 0, .int .i64 0, .int .i64 0, .int .i64 0, .int .i64 0, .int .u32 0, .slice none 0 0, .slice none 0 0, .int .i64 0] 101) = wa := ⟨_, rfl⟩
      rw [hwa] at Z9 hH ⊢
      rw [hwa] at I7
      clear hwa hsb
      refine wpAnyH_ready (rs := [4]) (by kernel_rfl) (by simp) ?_
      refine (AllReadyH.cons (o := { dst := some 8, op := Op.call { callee := Callee.value (Operand.func 18), args := #[Operand.tmp 7], argTypes := #[35] }, type := 3, pos := "l14_schedule.go:167", after := #[{ on := 3, ground := Ground.data }, { on := 2, ground := Ground.chain }], guard := none }) rfl (fun K hK => ?_) AllReadyH.nil)
      refine step_callC 18 #[.agg #[.int .i64 o, .int .i64 d, .int .i64 a, .int .i64 b, .int .i64 c, .int .u32 x]] (fun z v w' => z = .int .i64 (latV o x) ∧ Below v.heap.size v w') (by rfl) (by go_simp) (h18 _ hH) ?_
      rintro z8 w8 ⟨rfl, B8⟩
      have I8 := I7.next' B8
      simp only [Act.put, List.setIfInBounds_toArray, List.set_cons_zero, List.set_cons_succ]
      refine hK.out _ _ (hH.trans (B8.mono hH.size)) (fun hH' => ?_)
      clear hK K
      replace hH := hH'
      clear hH' 
      have Z9 := Z9.next B8
      refine wpAnyH_take (i := 5) (oi := { dst := some 9, op := Op.build 101 #[(0, Operand.tmp 4), (1, Operand.tmp 6), (3, Operand.tmp 8)], type := 101, pos := "l14_schedule.go:167", after := #[{ on := 0, ground := Ground.data }, { on := 2, ground := Ground.data }, { on := 4, ground := Ground.data }], guard := none }) (v := .agg #[.int .i64 o, .int .i64 d, .int .i64 a, .int .i64 b, .int .i64 c, .int .u32 x, .slice ad9 (srt (opsL o a b c x)).length cp9, .slice none 0 0, .int .i64 (latV o x)]) rfl (by kernel_rfl) (by kernel_rfl) (by kernel_rfl) (fun _ _ _ h => h) (Or.inl ⟨by rfl, fun w0 hSw => by (go_simp)⟩) hH ?_
      simp only [Act.put, List.setIfInBounds_toArray, List.set_cons_zero, List.set_cons_succ]
      refine wpAnyH_ready (rs := [7]) (by kernel_rfl) (by simp) ?_
      refine (AllReadyH.cons (o := { dst := none, op := Op.store 101 (Operand.tmp 3) (Operand.tmp 9), type := 0, pos := "l14_schedule.go:167", after := #[{ on := 6, ground := Ground.data }, { on := 5, ground := Ground.data }, { on := 4, ground := Ground.chain }, { on := 0, ground := Ground.phase }, { on := 1, ground := Ground.phase }, { on := 2, ground := Ground.phase }, { on := 3, ground := Ground.phase }, { on := 4, ground := Ground.phase }, { on := 5, ground := Ground.phase }, { on := 6, ground := Ground.phase }], guard := none }) rfl (fun K hK => ?_) AllReadyH.nil)
      have y0 := Z9.cell 0 (by omega)
      have y1 := Z9.cell 1 (by omega)
      have y2 := Z9.cell 2 (by omega)
      have y3 := Z9.cell 3 (by omega)
      have y4 := Z9.cell 4 (by omega)
      have y5 := Z9.cell 5 (by omega)
      have y6 := Z9.cell 6 (by omega)
      have y7 := Z9.cell 7 (by omega)
      have y8 := Z9.cell 8 (by omega)
      have fz := Z9.free
      have Zn := own_set9 Z9 [.int .i64 o, .int .i64 d, .int .i64 a, .int .i64 b, .int .i64 c, .int .u32 x, .slice ad9 (srt (opsL o a b c x)).length cp9, .slice none 0 0, .int .i64 (latV o x)] rfl
      have hn := below_set9 (p := sb) hH hH.size ze [.int .i64 o, .int .i64 d, .int .i64 a, .int .i64 b, .int .i64 c, .int .u32 x, .slice ad9 (srt (opsL o a b c x)).length cp9, .slice none 0 0, .int .i64 (latV o x)]
      have In := iown_but9 I8 sb [.int .i64 o, .int .i64 d, .int .i64 a, .int .i64 b, .int .i64 c, .int .u32 x, .slice ad9 (srt (opsL o a b c x)).length cp9, .slice none 0 0, .int .i64 (latV o x)] HNE
      refine step_skip (w8.setCells sb 0 [.int .i64 o, .int .i64 d, .int .i64 a, .int .i64 b, .int .i64 c, .int .u32 x, .slice ad9 (srt (opsL o a b c x)).length cp9, .slice none 0 0, .int .i64 (latV o x)]) (by rfl) (by go_simp; rfl) ?_
      refine hK.out _ _ hn (fun hH' => ?_)
      clear hK K hH' 
      refine wpAnyH_done (by kernel_rfl) ?_ _
      obtain ⟨w6, hw6⟩ : ∃ w6, w8.setCells sb 0 [.int .i64 o, .int .i64 d, .int .i64 a, .int .i64 b, .int .i64 c, .int .u32 x, .slice ad9 (srt (opsL o a b c x)).length cp9, .slice none 0 0, .int .i64 (latV o x)] = w6 := ⟨_, rfl⟩
      rw [hw6] at Zn hn In ⊢
      clear hw6 y0 y1 y2 y3 y4 y5 y6 y7 y8 fz hH Z9
      cases hnm : nmd o 0
      · rw [hnm] at h97
        have HWL : Hid (wrL o d = []) := by show wrL o d = []; unfold wrL; rw [hnm]; rfl
        clear hnm
        obtain ⟨⟨d0, d1, d2, d3, d4, d5⟩, _⟩ := HC.out _ hn
        go_wp2_with (first | (go_at_call 97; refine (h97 _).mono ?_; rintro e w7 ⟨rfl, B7⟩; (have hn7 := hn.trans (B7.mono hn.size)); (have ZL := Zn.next B7); (have OL := HRC.out _ hn7); (have I7 := In.next' B7); (obtain ⟨⟨d0, d1, d2, d3, d4, d5⟩, BB⟩ := HC.out _ hn7)) | (refine wpList_load_own rfl 101 _ rfl sb rfl 9 _ _ ZL Tryd.underlying101 rfl size101 ?_) | (refine wpList_store_own rfl 101 _ _ rfl (w.heap.size + 1) rfl 9 _ _ rfl OL (nine_one _ _ _ _ _ _ _ _ _ _ _ _ _) size101 ?_; intro w8 O8 K8))
        (try simp only [Exit.inBlock, Exit.then])
        refine bodyPost_ret (results_own rfl _ _ (w.heap.size + 1) 9 _ _ rfl O8 Tryd.underlying101 rfl size101) rfl ?_
        refine ⟨_, _, rfl, iown_only I7 K8 ?_, by rw [HWL.out]; exact Or.inl ⟨rfl, rfl⟩, BB.trans (K8.below (by omega) BB.size)⟩
        exact fun g hg e => HNR g hg e
      · rw [hnm] at h97
        have HWL : Hid (wrL o d = [d]) := by show wrL o d = [d]; unfold wrL; rw [hnm]; rfl
        clear hnm
        obtain ⟨⟨d0, d1, d2, d3, d4, d5⟩, _⟩ := HC.out _ hn
        go_wp2_with (first | (go_at_call 97; refine (h97 _).mono ?_; rintro e w7 ⟨rfl, B7⟩; (have hn7 := hn.trans (B7.mono hn.size)); (have Z7 := Zn.next B7); (have I7 := In.next' B7); (obtain ⟨⟨d0, d1, d2, d3, d4, d5⟩, BB⟩ := HC.out _ hn7); (have s7 := Z7.hi); (have c7 : w7.cell? ⟨sb, 7, none⟩ = some (.slice none 0 0) := Z7.cell 7 (by omega)); (have f7 := Z7.free 7); (have ON : Only sb w7 (w7.setCell ⟨sb, 7, none⟩ (.slice (some ⟨w7.heap.size, 0, none⟩) 1 1)) := (Only.refl _ _).setCell _ _); (have ZL := (Z7.set 7 (.slice (some ⟨w7.heap.size, 0, none⟩) 1 1) (g := fun i => [.int .i64 o, .int .i64 d, .int .i64 a, .int .i64 b, .int .i64 c, .int .u32 x, .slice ad9 (srt (opsL o a b c x)).length cp9, .slice (some ⟨w7.heap.size, 0, none⟩) 1 1, .int .i64 (latV o x)].getD i (.bool false)) (by omega) (fun i hi => by match i, hi with | 0, _ => rfl | 1, _ => rfl | 2, _ => rfl | 3, _ => rfl | 4, _ => rfl | 5, _ => rfl | 6, _ => rfl | 7, _ => rfl | 8, _ => rfl)).next (alloc_b (o := .cells #[.int .i64 d] 3))); (have hnS := hn7.trans (ON.below ze hn7.size)); (have hn8 := hnS.trans ((alloc_b (o := .cells #[.int .i64 d] 3)).mono hnS.size)); (have OL := HRC.out _ hn8); (have I8 := (iown_only I7 ON HNE).next' (alloc_b (o := .cells #[.int .i64 d] 3)))) | (refine wpList_load_own rfl 101 _ rfl sb rfl 9 _ _ ZL Tryd.underlying101 rfl size101 ?_) | (refine wpList_store_own rfl 101 _ _ rfl (w.heap.size + 1) rfl 9 _ _ rfl OL (nine_one _ _ _ _ _ _ _ _ _ _ _ _ _) size101 ?_; intro w8 O8 K8))
        (try simp only [Exit.inBlock, Exit.then])
        refine bodyPost_ret (results_own rfl _ _ (w.heap.size + 1) 9 _ _ rfl O8 Tryd.underlying101 rfl size101) rfl ?_
        have B8 := (HC.out _ hn8).2
        have DN : Own ((w7.setCell ⟨sb, 7, none⟩ (.slice (some ⟨w7.heap.size, 0, none⟩) 1 1)).alloc (.cells #[.int .i64 d] 3)) w7.heap.size 1 (fun i => .int .i64 ([d].getD i 0)) := by
          have h1 := ints_new (w7.setCell ⟨sb, 7, none⟩ (.slice (some ⟨w7.heap.size, 0, none⟩) 1 1)) [d]
          have h2 : (w7.setCell ⟨sb, 7, none⟩ (.slice (some ⟨w7.heap.size, 0, none⟩) 1 1)).heap.size = w7.heap.size := by simp
          rw [h2] at h1
          exact h1
        refine ⟨_, _, rfl, iown_only I8 K8 (fun g hg e => HNR g hg e), by rw [HWL.out]; exact Or.inr ⟨w7.heap.size, 1, rfl, Nat.le_refl _, BB.size, DN.but K8 (by have h2 := hn7.size; simp only [World.size_alloc] at h2; omega)⟩, B8.trans (K8.below (by omega) B8.size)⟩
  · obtain ⟨sb, hsb⟩ : ∃ sb, W5.heap.size = sb := ⟨_, rfl⟩
    refine step_val (.pointer (some ⟨W5.heap.size, 0, none⟩)) (W5.alloc (.cells #[.int .i64 0, .int .i64 0, .int .i64 0, .int .i64 0, .int .i64 0, .int .u32 0, .slice none 0 0, .slice none 0 0, .int .i64 0] 101)) (by rfl) (by go_simp) ?_
    simp only [Act.put, List.setIfInBounds_toArray, List.set_cons_zero, List.set_cons_succ]
    have Z9 : Own (W5.alloc (.cells #[.int .i64 0, .int .i64 0, .int .i64 0, .int .i64 0, .int .i64 0, .int .u32 0, .slice none 0 0, .slice none 0 0, .int .i64 0] 101)) W5.heap.size 9 (fun i => (#[.int .i64 0, .int .i64 0, .int .i64 0, .int .i64 0, .int .i64 0, .int .u32 0, .slice none 0 0, .slice none 0 0, .int .i64 0]).getD i undef) := own_lit9 W5 _ _ rfl
    have zb : w.heap.size ≤ W5.heap.size := (HC.out _ hH).2.size
    skip
    have ze : ((w.alloc (.cells #[.int .i64 o, .int .i64 d, .int .i64 a, .int .i64 b, .int .i64 c, .int .u32 x] 35)).alloc (.cells #[.int .i64 0, .int .i64 0, .int .i64 0, .int .i64 0, .int .i64 0, .int .u32 0, .slice none 0 0, .slice none 0 0, .int .i64 0] 101)).heap.size ≤ W5.heap.size := hH.size
    skip
    refine hK.out _ _ (hH.trans (alloc_b.mono hH.size)) (fun hH' => ?_)
    clear hK K
    replace hH := hH'
    clear hH'
    rw [hsb] at Z9 zb ze ⊢
    obtain ⟨wa, hwa⟩ : ∃ wa, W5.alloc (.cells #[.int .i64 0, .int .i64 0, .int .i64 0, .int .i64 0, .int .i64 0, .int .u32 0, .slice none 0 0, .slice none 0 0, .int .i64 0] 101) = wa := ⟨_, rfl⟩
    rw [hwa] at Z9 hH ⊢
    skip
    clear hwa hsb
    refine wpAnyH_ready (rs := [2]) (by kernel_rfl) (by simp) ?_
    refine (AllReadyH.cons (o := { dst := some 6, op := Op.call { callee := Callee.value (Operand.func 109), args := #[Operand.tmp 5], argTypes := #[35] }, type := 45, pos := "l14_schedule.go:167", after := #[{ on := 1, ground := Ground.data }], guard := none }) rfl (fun K hK => ?_) AllReadyH.nil)
    refine step_callC 109 #[.agg #[.int .i64 o, .int .i64 d, .int .i64 a, .int .i64 b, .int .i64 c, .int .u32 x]] (fun z v w' => IOwn v.heap.size w' z (srt (opsL o a b c x)) ∧ Below v.heap.size v w') (by rfl) (by go_simp) (h109 _ hH) ?_
    rintro z9 w9 ⟨I9, B9⟩
    obtain ⟨ad9, cp9, rfl⟩ := I9.row.is
    have HNE : ∀ g, (Value.slice ad9 (srt (opsL o a b c x)).length cp9).ownBlock = some g → g ≠ sb := fun g hg => by have h1 := (I9.blk g hg).1; have h2 := Z9.hi; omega
    have HNR : ∀ g, (Value.slice ad9 (srt (opsL o a b c x)).length cp9).ownBlock = some g → g ≠ w.heap.size + 1 := fun g hg => by have h1 := (I9.blk g hg).1; have h2 := hH.size; simp only [World.size_alloc] at h2; omega
    have I9' : IOwn w.heap.size w9 (.slice ad9 (srt (opsL o a b c x)).length cp9) (srt (opsL o a b c x)) := I9.low (HC.out _ hH).2.size
    simp only [Act.put, List.setIfInBounds_toArray, List.set_cons_zero, List.set_cons_succ]
    refine hK.out _ _ (hH.trans (B9.mono hH.size)) (fun hH' => ?_)
    clear hK K
    replace hH := hH'
    clear hH' 
    have Z9 := Z9.next B9
    refine wpAnyH_ready (rs := [4]) (by kernel_rfl) (by simp) ?_
    refine (AllReadyH.cons (o := { dst := some 8, op := Op.call { callee := Callee.value (Operand.func 18), args := #[Operand.tmp 7], argTypes := #[35] }, type := 3, pos := "l14_schedule.go:167", after := #[{ on := 3, ground := Ground.data }, { on := 2, ground := Ground.chain }], guard := none }) rfl (fun K hK => ?_) AllReadyH.nil)
    refine step_callC 18 #[.agg #[.int .i64 o, .int .i64 d, .int .i64 a, .int .i64 b, .int .i64 c, .int .u32 x]] (fun z v w' => z = .int .i64 (latV o x) ∧ Below v.heap.size v w') (by rfl) (by go_simp) (h18 _ hH) ?_
    rintro z8 w8 ⟨rfl, B8⟩
    have I8 := I9'.next' B8
    simp only [Act.put, List.setIfInBounds_toArray, List.set_cons_zero, List.set_cons_succ]
    refine hK.out _ _ (hH.trans (B8.mono hH.size)) (fun hH' => ?_)
    clear hK K
    replace hH := hH'
    clear hH' 
    have Z9 := Z9.next B8
    refine wpAnyH_take (i := 5) (oi := { dst := some 9, op := Op.build 101 #[(0, Operand.tmp 4), (1, Operand.tmp 6), (3, Operand.tmp 8)], type := 101, pos := "l14_schedule.go:167", after := #[{ on := 0, ground := Ground.data }, { on := 2, ground := Ground.data }, { on := 4, ground := Ground.data }], guard := none }) (v := .agg #[.int .i64 o, .int .i64 d, .int .i64 a, .int .i64 b, .int .i64 c, .int .u32 x, .slice ad9 (srt (opsL o a b c x)).length cp9, .slice none 0 0, .int .i64 (latV o x)]) rfl (by kernel_rfl) (by kernel_rfl) (by kernel_rfl) (fun _ _ _ h => h) (Or.inl ⟨by rfl, fun w0 hSw => by (go_simp)⟩) hH ?_
    simp only [Act.put, List.setIfInBounds_toArray, List.set_cons_zero, List.set_cons_succ]
    refine wpAnyH_ready (rs := [7]) (by kernel_rfl) (by simp) ?_
    refine (AllReadyH.cons (o := { dst := none, op := Op.store 101 (Operand.tmp 3) (Operand.tmp 9), type := 0, pos := "l14_schedule.go:167", after := #[{ on := 6, ground := Ground.data }, { on := 5, ground := Ground.data }, { on := 4, ground := Ground.chain }, { on := 0, ground := Ground.phase }, { on := 1, ground := Ground.phase }, { on := 2, ground := Ground.phase }, { on := 3, ground := Ground.phase }, { on := 4, ground := Ground.phase }, { on := 5, ground := Ground.phase }, { on := 6, ground := Ground.phase }], guard := none }) rfl (fun K hK => ?_) AllReadyH.nil)
    have y0 := Z9.cell 0 (by omega)
    have y1 := Z9.cell 1 (by omega)
    have y2 := Z9.cell 2 (by omega)
    have y3 := Z9.cell 3 (by omega)
    have y4 := Z9.cell 4 (by omega)
    have y5 := Z9.cell 5 (by omega)
    have y6 := Z9.cell 6 (by omega)
    have y7 := Z9.cell 7 (by omega)
    have y8 := Z9.cell 8 (by omega)
    have fz := Z9.free
    have Zn := own_set9 Z9 [.int .i64 o, .int .i64 d, .int .i64 a, .int .i64 b, .int .i64 c, .int .u32 x, .slice ad9 (srt (opsL o a b c x)).length cp9, .slice none 0 0, .int .i64 (latV o x)] rfl
    have hn := below_set9 (p := sb) hH hH.size ze [.int .i64 o, .int .i64 d, .int .i64 a, .int .i64 b, .int .i64 c, .int .u32 x, .slice ad9 (srt (opsL o a b c x)).length cp9, .slice none 0 0, .int .i64 (latV o x)]
    have In := iown_but9 I8 sb [.int .i64 o, .int .i64 d, .int .i64 a, .int .i64 b, .int .i64 c, .int .u32 x, .slice ad9 (srt (opsL o a b c x)).length cp9, .slice none 0 0, .int .i64 (latV o x)] HNE
    refine step_skip (w8.setCells sb 0 [.int .i64 o, .int .i64 d, .int .i64 a, .int .i64 b, .int .i64 c, .int .u32 x, .slice ad9 (srt (opsL o a b c x)).length cp9, .slice none 0 0, .int .i64 (latV o x)]) (by rfl) (by go_simp; rfl) ?_
    refine hK.out _ _ hn (fun hH' => ?_)
    clear hK K hH' 
    refine wpAnyH_done (by kernel_rfl) ?_ _
    obtain ⟨w6, hw6⟩ : ∃ w6, w8.setCells sb 0 [.int .i64 o, .int .i64 d, .int .i64 a, .int .i64 b, .int .i64 c, .int .u32 x, .slice ad9 (srt (opsL o a b c x)).length cp9, .slice none 0 0, .int .i64 (latV o x)] = w6 := ⟨_, rfl⟩
    rw [hw6] at Zn hn In ⊢
    clear hw6 y0 y1 y2 y3 y4 y5 y6 y7 y8 fz hH Z9
    cases hnm : nmd o 0
    · rw [hnm] at h97
      have HWL : Hid (wrL o d = []) := by show wrL o d = []; unfold wrL; rw [hnm]; rfl
      clear hnm
      obtain ⟨⟨d0, d1, d2, d3, d4, d5⟩, _⟩ := HC.out _ hn
      go_wp2_with (first | (go_at_call 97; refine (h97 _).mono ?_; rintro e w7 ⟨rfl, B7⟩; (have hn7 := hn.trans (B7.mono hn.size)); (have ZL := Zn.next B7); (have OL := HRC.out _ hn7); (have I7 := In.next' B7); (obtain ⟨⟨d0, d1, d2, d3, d4, d5⟩, BB⟩ := HC.out _ hn7)) | (refine wpList_load_own rfl 101 _ rfl sb rfl 9 _ _ ZL Tryd.underlying101 rfl size101 ?_) | (refine wpList_store_own rfl 101 _ _ rfl (w.heap.size + 1) rfl 9 _ _ rfl OL (nine_one _ _ _ _ _ _ _ _ _ _ _ _ _) size101 ?_; intro w8 O8 K8))
      (try simp only [Exit.inBlock, Exit.then])
      refine bodyPost_ret (results_own rfl _ _ (w.heap.size + 1) 9 _ _ rfl O8 Tryd.underlying101 rfl size101) rfl ?_
      refine ⟨_, _, rfl, iown_only I7 K8 ?_, by rw [HWL.out]; exact Or.inl ⟨rfl, rfl⟩, BB.trans (K8.below (by omega) BB.size)⟩
      exact fun g hg e => HNR g hg e
    · rw [hnm] at h97
      have HWL : Hid (wrL o d = [d]) := by show wrL o d = [d]; unfold wrL; rw [hnm]; rfl
      clear hnm
      obtain ⟨⟨d0, d1, d2, d3, d4, d5⟩, _⟩ := HC.out _ hn
      go_wp2_with (first | (go_at_call 97; refine (h97 _).mono ?_; rintro e w7 ⟨rfl, B7⟩; (have hn7 := hn.trans (B7.mono hn.size)); (have Z7 := Zn.next B7); (have I7 := In.next' B7); (obtain ⟨⟨d0, d1, d2, d3, d4, d5⟩, BB⟩ := HC.out _ hn7); (have s7 := Z7.hi); (have c7 : w7.cell? ⟨sb, 7, none⟩ = some (.slice none 0 0) := Z7.cell 7 (by omega)); (have f7 := Z7.free 7); (have ON : Only sb w7 (w7.setCell ⟨sb, 7, none⟩ (.slice (some ⟨w7.heap.size, 0, none⟩) 1 1)) := (Only.refl _ _).setCell _ _); (have ZL := (Z7.set 7 (.slice (some ⟨w7.heap.size, 0, none⟩) 1 1) (g := fun i => [.int .i64 o, .int .i64 d, .int .i64 a, .int .i64 b, .int .i64 c, .int .u32 x, .slice ad9 (srt (opsL o a b c x)).length cp9, .slice (some ⟨w7.heap.size, 0, none⟩) 1 1, .int .i64 (latV o x)].getD i (.bool false)) (by omega) (fun i hi => by match i, hi with | 0, _ => rfl | 1, _ => rfl | 2, _ => rfl | 3, _ => rfl | 4, _ => rfl | 5, _ => rfl | 6, _ => rfl | 7, _ => rfl | 8, _ => rfl)).next (alloc_b (o := .cells #[.int .i64 d] 3))); (have hnS := hn7.trans (ON.below ze hn7.size)); (have hn8 := hnS.trans ((alloc_b (o := .cells #[.int .i64 d] 3)).mono hnS.size)); (have OL := HRC.out _ hn8); (have I8 := (iown_only I7 ON HNE).next' (alloc_b (o := .cells #[.int .i64 d] 3)))) | (refine wpList_load_own rfl 101 _ rfl sb rfl 9 _ _ ZL Tryd.underlying101 rfl size101 ?_) | (refine wpList_store_own rfl 101 _ _ rfl (w.heap.size + 1) rfl 9 _ _ rfl OL (nine_one _ _ _ _ _ _ _ _ _ _ _ _ _) size101 ?_; intro w8 O8 K8))
      (try simp only [Exit.inBlock, Exit.then])
      refine bodyPost_ret (results_own rfl _ _ (w.heap.size + 1) 9 _ _ rfl O8 Tryd.underlying101 rfl size101) rfl ?_
      have B8 := (HC.out _ hn8).2
      have DN : Own ((w7.setCell ⟨sb, 7, none⟩ (.slice (some ⟨w7.heap.size, 0, none⟩) 1 1)).alloc (.cells #[.int .i64 d] 3)) w7.heap.size 1 (fun i => .int .i64 ([d].getD i 0)) := by
        have h1 := ints_new (w7.setCell ⟨sb, 7, none⟩ (.slice (some ⟨w7.heap.size, 0, none⟩) 1 1)) [d]
        have h2 : (w7.setCell ⟨sb, 7, none⟩ (.slice (some ⟨w7.heap.size, 0, none⟩) 1 1)).heap.size = w7.heap.size := by simp
        rw [h2] at h1
        exact h1
      refine ⟨_, _, rfl, iown_only I8 K8 (fun g hg e => HNR g hg e), by rw [HWL.out]; exact Or.inr ⟨w7.heap.size, 1, rfl, Nat.le_refl _, BB.size, DN.but K8 (by have h2 := hn7.size; simp only [World.size_alloc] at h2; omega)⟩, B8.trans (K8.below (by omega) B8.size)⟩
end Go.Proofs.YtcgapochcahknaaDoor
