/- The program's living: for each instruction the registers that live behind it. -/
import Derived.Test.YtmeokhppaekhpaaGreatDoorOkc
import Derived.Deep.RegionWith
import Derived.Deep.OwnRows
namespace Go.Proofs.YtmeokhppaekhpaaGreatDoor
open Go.ChangeShapes Go.WideShapes Go.ChangeAt Go.RowKit
set_option linter.unusedVariables false
theorem IOwn.next {B : Nat} {w w' : World} {v : Value} {L : List Int} (h : IOwn B w v L) (b : Below w.heap.size w w') : IOwn B w' v L := by
  rcases h with h | ⟨g, c, h1, h2, h3, h4⟩
  · exact Or.inl h
  · exact Or.inr ⟨g, c, h1, h2, h3, h4.next b⟩
theorem IOwn.only {B p : Nat} {w w' : World} {v : Value} {L : List Int} (h : IOwn B w v L) (b : Only p w w') (hp : p < B) : IOwn B w' v L := by
  rcases h with h | ⟨g, c, h1, h2, h3, h4⟩
  · exact Or.inl h
  · exact Or.inr ⟨g, c, h1, h2, h3, h4.but b (by omega)⟩
theorem own_madeA (w : World) (n : Nat) (z : Value) (t : TypeId) : Own (w.alloc (.cells (madeCells #[z] n) t)) w.heap.size n (fun _ => z) := by
  refine ⟨fun i hi => ?_, fun i => ?_, by rw [World.size_alloc]; omega⟩
  · rw [World.cell?_alloc_mark]
    simp [madeCells, hi, Nat.mod_one]
  · rw [World.frozen?_alloc_mark]
    simp
/-- Two rows of rows in the making: what may come next, and what is read. -/
structure Ln (c : Cd) (w : World) (q1 q2 k : Nat) (wx : World) : Prop where
  b : Below w.heap.size w wx
  e1 : ∀ i, i < c.n → (wx.cell? ⟨q1, i, none⟩).isSome = true
  e2 : ∀ i, i < c.n → (wx.cell? ⟨q2, i, none⟩).isSome = true
  f1 : ∀ i, wx.frozen? ⟨q1, i, none⟩ = false
  f2 : ∀ i, wx.frozen? ⟨q2, i, none⟩ = false
  r1 : ∀ i, i < k → ∃ u, wx.cell? ⟨q1, i, none⟩ = some u ∧ IOwn (w.heap.size + 2) wx u (sucL (c.O i) (c.A i) (c.B i) (c.C i) i)
  r2 : ∀ i, i < k → ∃ u, wx.cell? ⟨q2, i, none⟩ = some u ∧ IOwn (w.heap.size + 2) wx u (opsL (c.O i) (c.A i) (c.B i) (c.C i) (c.X i))
  l1 : w.heap.size ≤ q1 ∧ q1 < w.heap.size + 2
  l2 : w.heap.size ≤ q2 ∧ q2 < w.heap.size + 2
  ne : q1 ≠ q2
  hs : w.heap.size + 2 ≤ wx.heap.size
theorem Ln.next {c : Cd} {w wx wy : World} {q1 q2 k : Nat} (h : Ln c w q1 q2 k wx) (b : Below wx.heap.size wx wy) : Ln c w q1 q2 k wy := by
  have z := b.size
  have h1 := h.l1
  have h2 := h.l2
  have hs := h.hs
  refine ⟨h.b.trans (b.mono h.b.size), fun i hi => ?_, fun i hi => ?_, fun i => (b.frozen (p := ⟨q1, i, none⟩) (by show q1 < _; omega)).trans (h.f1 i), fun i => (b.frozen (p := ⟨q2, i, none⟩) (by show q2 < _; omega)).trans (h.f2 i), fun i hi => ?_, fun i hi => ?_, h1, h2, h.ne, by omega⟩
  · rw [b.cell (p := ⟨q1, i, none⟩) (by show q1 < _; omega)]; exact h.e1 i hi
  · rw [b.cell (p := ⟨q2, i, none⟩) (by show q2 < _; omega)]; exact h.e2 i hi
  · obtain ⟨u, a1, a2⟩ := h.r1 i hi
    exact ⟨u, cell_nx a1 b, a2.next b⟩
  · obtain ⟨u, a1, a2⟩ := h.r2 i hi
    exact ⟨u, cell_nx a1 b, a2.next b⟩
theorem Ln.drew {c : Cd} {w wx : World} {q1 q2 k : Nat} (h : Ln c w q1 q2 k wx) : Ln c w q1 q2 k wx.drew := h.next (below_drew (Below.refl _ _))
theorem Ln.set1 {c : Cd} {w wx : World} {q1 q2 k j : Nat} (h : Ln c w q1 q2 k wx) (hj : k ≤ j) (v : Value) : Ln c w q1 q2 k (wx.setCell ⟨q1, j, none⟩ v) := by
  have O : Only q1 wx (wx.setCell ⟨q1, j, none⟩ v) := (Only.refl _ _).setCell _ _
  refine ⟨h.b.setCell (p := ⟨q1, j, none⟩) h.l1.1 _, fun i hi => ?_, fun i hi => ?_, fun i => by simp [h.f1 i], fun i => by simp [h.f2 i], fun i hi => ?_, fun i hi => ?_, h.l1, h.l2, h.ne, by simpa using h.hs⟩
  · by_cases e : j = i
    · subst e
      rw [World.cell?_setCell_same' _ _ _ (h.e1 j hi)]
      rfl
    · rw [World.cell?_setCell_other (h := addr_ne e)]
      exact h.e1 i hi
  · rw [World.cell?_setCell_other (h := addr_ne' h.ne)]
    exact h.e2 i hi
  · obtain ⟨u, a1, a2⟩ := h.r1 i hi
    exact ⟨u, by rw [World.cell?_setCell_other (h := addr_ne (by omega))]; exact a1, a2.only O h.l1.2⟩
  · obtain ⟨u, a1, a2⟩ := h.r2 i hi
    exact ⟨u, by rw [World.cell?_setCell_other (h := addr_ne' h.ne)]; exact a1, a2.only O h.l1.2⟩
theorem Ln.set2 {c : Cd} {w wx : World} {q1 q2 k j : Nat} (h : Ln c w q1 q2 k wx) (hj : k ≤ j) (v : Value) : Ln c w q1 q2 k (wx.setCell ⟨q2, j, none⟩ v) := by
  have O : Only q2 wx (wx.setCell ⟨q2, j, none⟩ v) := (Only.refl _ _).setCell _ _
  refine ⟨h.b.setCell (p := ⟨q2, j, none⟩) h.l2.1 _, fun i hi => ?_, fun i hi => ?_, fun i => by simp [h.f1 i], fun i => by simp [h.f2 i], fun i hi => ?_, fun i hi => ?_, h.l1, h.l2, h.ne, by simpa using h.hs⟩
  · rw [World.cell?_setCell_other (h := addr_ne' (Ne.symm h.ne))]
    exact h.e1 i hi
  · by_cases e : j = i
    · subst e
      rw [World.cell?_setCell_same' _ _ _ (h.e2 j hi)]
      rfl
    · rw [World.cell?_setCell_other (h := addr_ne e)]
      exact h.e2 i hi
  · obtain ⟨u, a1, a2⟩ := h.r1 i hi
    exact ⟨u, by rw [World.cell?_setCell_other (h := addr_ne' (Ne.symm h.ne))]; exact a1, a2.only O h.l2.2⟩
  · obtain ⟨u, a1, a2⟩ := h.r2 i hi
    exact ⟨u, by rw [World.cell?_setCell_other (h := addr_ne (by omega))]; exact a1, a2.only O h.l2.2⟩
/-- One instruction more. -/
theorem Ln.step {c : Cd} {w wx : World} {q1 q2 k : Nat} {u1 u2 : Value} (h : Ln c w q1 q2 k wx) (hk : k < c.n) (i1 : IOwn (w.heap.size + 2) wx u1 (sucL (c.O k) (c.A k) (c.B k) (c.C k) k)) (i2 : IOwn (w.heap.size + 2) wx u2 (opsL (c.O k) (c.A k) (c.B k) (c.C k) (c.X k))) : Ln c w q1 q2 (k + 1) ((wx.setCell ⟨q1, k, none⟩ u1).setCell ⟨q2, k, none⟩ u2) := by
  have L1 := h.set1 (Nat.le_refl k) u1
  have L2 := L1.set2 (Nat.le_refl k) u2
  have O1 : Only q1 wx (wx.setCell ⟨q1, k, none⟩ u1) := (Only.refl _ _).setCell _ _
  have O2 : Only q2 (wx.setCell ⟨q1, k, none⟩ u1) ((wx.setCell ⟨q1, k, none⟩ u1).setCell ⟨q2, k, none⟩ u2) := (Only.refl _ _).setCell _ _
  refine ⟨L2.b, L2.e1, L2.e2, L2.f1, L2.f2, fun i hi => ?_, fun i hi => ?_, h.l1, h.l2, h.ne, L2.hs⟩
  · by_cases e : i = k
    · subst e
      exact ⟨u1, by rw [World.cell?_setCell_other (h := addr_ne' (Ne.symm h.ne)), World.cell?_setCell_same' _ _ _ (h.e1 i hk)], (i1.only O1 h.l1.2).only O2 h.l2.2⟩
    · exact L2.r1 i (by omega)
  · by_cases e : i = k
    · subst e
      exact ⟨u2, World.cell?_setCell_same' _ _ _ (L1.e2 i hk), (i2.only O1 h.l1.2).only O2 h.l2.2⟩
    · exact L2.r2 i (by omega)
theorem ln_begin (c : Cd) (w : World) (t : TypeId) : Ln c w w.heap.size (w.heap.size + 1) 0 ((w.alloc (.cells (madeCells #[.slice none 0 0] c.n) t)).alloc (.cells (madeCells #[.slice none 0 0] c.n) t)) ∧ Ln c w (w.heap.size + 1) w.heap.size 0 ((w.alloc (.cells (madeCells #[.slice none 0 0] c.n) t)).alloc (.cells (madeCells #[.slice none 0 0] c.n) t)) := by
  have B1 : Below w.heap.size w (w.alloc (.cells (madeCells #[.slice none 0 0] c.n) t)) := (Below.refl _ _).alloc (Nat.le_refl _) _
  have B2 : Below (w.alloc (.cells (madeCells #[.slice none 0 0] c.n) t)).heap.size (w.alloc (.cells (madeCells #[.slice none 0 0] c.n) t)) ((w.alloc (.cells (madeCells #[.slice none 0 0] c.n) t)).alloc (.cells (madeCells #[.slice none 0 0] c.n) t)) := (Below.refl _ _).alloc (Nat.le_refl _) _
  have O1 := (own_madeA w c.n (.slice none 0 0) t).next B2
  have O2 := own_madeA (w.alloc (.cells (madeCells #[.slice none 0 0] c.n) t)) c.n (.slice none 0 0) t
  rw [World.size_alloc] at O2
  have BB := B1.trans (B2.mono (by rw [World.size_alloc]; omega))
  have hz : w.heap.size + 2 ≤ ((w.alloc (.cells (madeCells #[.slice none 0 0] c.n) t)).alloc (.cells (madeCells #[.slice none 0 0] c.n) t)).heap.size := by rw [World.size_alloc, World.size_alloc]; omega
  exact ⟨⟨BB, fun i hi => by rw [O1.cell i hi]; rfl, fun i hi => by rw [O2.cell i hi]; rfl, O1.free, O2.free, fun i hi => by omega, fun i hi => by omega, by omega, by omega, by omega, hz⟩, ⟨BB, fun i hi => by rw [O2.cell i hi]; rfl, fun i hi => by rw [O1.cell i hi]; rfl, O2.free, O1.free, fun i hi => by omega, fun i hi => by omega, by omega, by omega, by omega, hz⟩⟩
/-- .. and the instruction that is looked at lies in block qi. -/
structure Lq (c : Cd) (w : World) (q1 q2 k qi : Nat) (wx : World) : Prop where
  ln : Ln c w q1 q2 k wx
  hq : qi < wx.heap.size
  c0 : wx.cell? ⟨qi, 0, none⟩ = some (.int .i64 (c.O k))
  c1 : wx.cell? ⟨qi, 1, none⟩ = some (.int .i64 (c.D k))
  c2 : wx.cell? ⟨qi, 2, none⟩ = some (.int .i64 (c.A k))
  c3 : wx.cell? ⟨qi, 3, none⟩ = some (.int .i64 (c.B k))
  c4 : wx.cell? ⟨qi, 4, none⟩ = some (.int .i64 (c.C k))
  c5 : wx.cell? ⟨qi, 5, none⟩ = some (.int .u32 (c.X k))
theorem Lq.next {c : Cd} {w wx wy : World} {q1 q2 k qi : Nat} (h : Lq c w q1 q2 k qi wx) (b : Below wx.heap.size wx wy) : Lq c w q1 q2 k qi wy := ⟨h.ln.next b, by have := h.hq; have := b.size; omega, cell_nx h.c0 b, cell_nx h.c1 b, cell_nx h.c2 b, cell_nx h.c3 b, cell_nx h.c4 b, cell_nx h.c5 b⟩
theorem Lq.drew {c : Cd} {w wx : World} {q1 q2 k qi : Nat} (h : Lq c w q1 q2 k qi wx) : Lq c w q1 q2 k qi wx.drew := h.next (below_drew (Below.refl _ _))
theorem IOwn.lt {B : Nat} {w : World} {v : Value} {L : List Int} (h : IOwn B w v L) : ∀ q, v.ownBlock = some q → B ≤ q := fun q hq => by
  rcases h with ⟨_, rfl⟩ | ⟨g, c, rfl, _, h3, _⟩
  · simp [Value.ownBlock] at hq
  · simp [Value.ownBlock] at hq
    omega
theorem RegI.arows {B : Nat} {w : World} {u : Value} {k : Nat} {f : Nat → List Int} (h : RegI B w u k f) : ARows w u k f := by
  obtain ⟨vs, V1, V2⟩ := h
  by_cases e : k = 0
  · subst e
    rcases V1.2 with ⟨hv, h0⟩ | ⟨g, cap, cur, hv, _⟩
    · exact ⟨none, 0, hv, fun i hi => by omega⟩
    · exact ⟨_, _, hv, fun i hi => by omega⟩
  · obtain ⟨g, cp, rfl, hgB, hgl⟩ := World.ownsRow.form V1 (by omega)
    refine ⟨_, _, rfl, fun i hi => ?_⟩
    obtain ⟨v, q1, q2, _⟩ := V2 i hi
    exact ⟨g, 0, v, rfl, by rw [Nat.zero_add, V1.cellAt i (by omega), q1], q2.arow⟩
theorem Cols.ext {B : Nat} {w : World} {u : Value} {K : Nat} {L M : Nat → List Int} (h : Cols B w u K L) (e : ∀ x, x < K → L x = M x) : Cols B w u K M := by
  obtain ⟨gc, g, h1, h2, h3, h4⟩ := h
  have ho : ∀ k, k ≤ K → offs (fun x => (L x).length) k = offs (fun x => (M x).length) k := fun k hk => offs_ext k (fun x hx => by rw [e x (by omega)])
  refine ⟨gc, g, h1, h2, h3, ⟨fun x hx => ?_, fun x hx i hi => ?_, fun x hx => Nat.le_refl _, fun i hi => h4.room i (by rw [ho K (Nat.le_refl _)]; exact hi), h4.fg, h4.fc, h4.ne, h4.hg, h4.hc⟩⟩
  · obtain ⟨o, c1, c2⟩ := h4.col x hx
    rw [← ho x (by omega), ← e x hx]
    exact ⟨o, c1, c2⟩
  · rw [← e x hx] at hi ⊢
    rw [← ho x (by omega)]
    exact h4.cel x hx i hi
theorem Cols.low {B C : Nat} {w : World} {u : Value} {K : Nat} {L : Nat → List Int} (h : Cols B w u K L) (hC : C ≤ B) : Cols C w u K L := by
  obtain ⟨gc, g, h1, h2, h3, h4⟩ := h
  exact ⟨gc, g, h1, by omega, by omega, h4⟩
theorem col_len3 (f : Nat → List Int) (n K x : Nat) (hn : n ≤ 600) (hl : ∀ i, i < n → (f i).length ≤ 3) (hb : ∀ i, i < n → ∀ t, t ∈ f i → 0 ≤ t ∧ t < K) (hx : x < K) : (colL f n x).length ≤ 1800 := by
  have h1 := offs_bnd f K 3 n hl hb
  have h2 := offs_lt (fun x => (colL f n x).length) hx
  omega
set_option maxRecDepth 100000 in
set_option maxHeartbeats 16000000 in
theorem living24 (n a cap : Nat) (c : Cd) (hn : c.n = n) (hg : goodC c.O c.D c.A c.B c.C c.X c.n = true) (hX : Wds c.X c.n) (w : World) (G : Forms w) (RI : RowI w a n c.O c.D c.A c.B c.C c.X) : Calls Tryz.prog 81 #[.slice (some ⟨a, 0, none⟩) n cap] w fun e w' => ∃ u, e = .returned u ∧ Cols w.heap.size w' u n (fun k => lsF (lbB c k) c.R) ∧ Below w.heap.size w w' := by
  obtain ⟨K, hD, hR⟩ := lvok_of hg hX
  have n1 : n ≤ 600 := by rw [← hn]; exact K.n1
  have n0 : 1 ≤ n := by rw [← hn]; exact K.n0
  have HS := sucs_of hg
  rw [hn] at HS
  have HSu : Hid (Sucs c.O c.A c.B c.C n) := HS
  have HK : Hid (LvOk c c.R) := K
  have HN : Hid (c.n = n) := hn
  have HR : Hid (RowI w a n c.O c.D c.A c.B c.C c.X) := RI
  have HF : Hid (Forms w) := G
  have HRr : Hid ((c.R : Int) = rgn c.O c.D c.A c.B c.C c.X c.n) := hR
  have HGo : Hid (goodC c.O c.D c.A c.B c.C c.X c.n = true) := hg
  have HXx : Hid (Wds c.X c.n) := hX
  have hmk := run_make_row' (P := Tryz.prog) 78 24 (.slice none 0 0) 24 Tryz.underlying78 info34 rfl .i64 .i64 n (by omega) (by omega)
  have LB0 := ln_begin c w 24
  rw [hn] at LB0
  have HL0 : Hid (Ln c w w.heap.size (w.heap.size + 1) 0 ((w.alloc (.cells (madeCells #[.slice none 0 0] n) 24)).alloc (.cells (madeCells #[.slice none 0 0] n) 24))) := LB0.1
  have HL1 : Hid (Ln c w (w.heap.size + 1) w.heap.size 0 ((w.alloc (.cells (madeCells #[.slice none 0 0] n) 24)).alloc (.cells (madeCells #[.slice none 0 0] n) 24))) := LB0.2
  clear HS K hn RI G hR hg hX hD LB0
  go_enter Tryz.func81, Tryz.ntmps81
  go_upto_region 1 with fail
  go_cut [3, 4] (fun s3 s4 wx => ∃ q1 q2 : Nat, s3 = .slice (some ⟨q1, 0, none⟩) n n ∧ s4 = .slice (some ⟨q2, 0, none⟩) n n ∧ Hid (Ln c w q1 q2 0 wx))
  case first =>
    go_region
    all_goals
      go_wp2_with fail
      go_meet
      case rel => first | exact ⟨_, _, rfl, rfl, HL0.out.drew⟩ | exact ⟨_, _, rfl, rfl, HL1.out.drew⟩ | exact ⟨_, _, rfl, rfl, HL0.out⟩ | exact ⟨_, _, rfl, rfl, HL1.out⟩
  case rest =>
    obtain ⟨q1, q2, rfl, rfl, L0⟩ := hcut
    clear HL0 HL1 hmk
    go_wp2
    go_loopw [19] (fun i wx => ∃ k : Nat, k ≤ n ∧ i = .int .i64 k ∧ Hid (Ln c w q1 q2 k wx)) (fun i _ => n - (intOf i).toNat)
    case atStart => exact ⟨0, Nat.zero_le _, rfl, L0⟩
    case round =>
      obtain ⟨k, hk, rfl, LJ⟩ := hrel
      clear L0
      by_cases hkn : k < n
      · have i1 : (k : Int) < (n : Int) := by omega
        have i0 : (0 : Int) ≤ (k : Int) := by omega
        have hkc : k < c.n := by rw [HN.out]; exact hkn
        have RK := HR.out.next LJ.out.b
        have c0 := RK.c0 k hkn
        have c1 := RK.c1 k hkn
        have c2 := RK.c2 k hkn
        have c3 := RK.c3 k hkn
        have c4 := RK.c4 k hkn
        have c5 := RK.c5 k hkn
        have hne := LJ.out.ne
        have HQS : Hid (q1 < wr.heap.size ∧ q2 < wr.heap.size) := ⟨by have := LJ.out.l1; have := LJ.out.hs; omega, by have := LJ.out.l2; have := LJ.out.hs; omega⟩
        have LW : Lq c w q1 q2 k wr.heap.size (wr.alloc (.cells #[.int .i64 (c.O k), .int .i64 (c.D k), .int .i64 (c.A k), .int .i64 (c.B k), .int .i64 (c.C k), .int .u32 (c.X k)] 51)) := ⟨LJ.out.next ((Below.refl _ _).alloc (Nat.le_refl _) _), by simp, by simp, by simp, by simp, by simp, by simp, by simp⟩
        have h40 : ∀ v, Lq c w q1 q2 k wr.heap.size v → Calls Tryz.prog 108 #[.slice (some ⟨a, 0, none⟩) n cap, .int .i64 (k : Int)] v fun e w' => ∃ u, e = .returned u ∧ IOwn (w.heap.size + 2) w' u (sucL (c.O k) (c.A k) (c.B k) (c.C k) k) ∧ Below v.heap.size v w' ∧ Lq c w q1 q2 k wr.heap.size w' := fun v hv => (nexts49 n a cap k c.O c.D c.A c.B c.C c.X v (HR.out.next hv.ln.b) hkn n1).mono fun e w' ⟨u, h1, h2, h3⟩ => ⟨u, h1, h2.low hv.ln.hs, h3, hv.next h3⟩
        have h41 : ∀ v, Lq c w q1 q2 k wr.heap.size v → Calls Tryz.prog 58 #[.agg #[.int .i64 (c.O k), .int .i64 (c.D k), .int .i64 (c.A k), .int .i64 (c.B k), .int .i64 (c.C k), .int .u32 (c.X k)]] v fun e w' => ∃ u, e = .returned u ∧ IOwn (w.heap.size + 2) w' u (opsL (c.O k) (c.A k) (c.B k) (c.C k) (c.X k)) ∧ Below v.heap.size v w' ∧ Lq c w q1 q2 k wr.heap.size w' := fun v hv => (operands38 (c.O k) (c.D k) (c.A k) (c.B k) (c.C k) (c.X k) v (HF.out.below hv.ln.b) (HK.out.hx k hkc).1 (HK.out.hx k hkc).2 (HK.out.ops k hkc) (HK.out.h4 k hkc)).mono fun e w' ⟨u, h1, h2, h3⟩ => ⟨u, h1, h2.low hv.ln.hs, h3, hv.next h3⟩
        have d0 := LW.c0
        have d1 := LW.c1
        have d2 := LW.c2
        have d3 := LW.c3
        have d4 := LW.c4
        have d5 := LW.c5
        clear RK LJ
        go_upto_region 5 with fail
        obtain ⟨W, hW⟩ : ∃ W, wr.alloc (.cells #[.int .i64 (c.O k), .int .i64 (c.D k), .int .i64 (c.A k), .int .i64 (c.B k), .int .i64 (c.C k), .int .u32 (c.X k)] 51) = W := ⟨_, rfl⟩
        obtain ⟨qi, hqi⟩ : ∃ qi, wr.heap.size = qi := ⟨_, rfl⟩
        rw [hW] at LW d0 d1 d2 d3 d4 d5 ⊢
        rw [hqi] at LW h40 h41 d0 d1 d2 d3 d4 d5 ⊢
        clear hW hqi c0 c1 c2 c3 c4 c5
        go_region_with (first | (go_at_call 108; refine (h40 _ ?_).mono ?_; (focus (first | with_reducible exact LW | with_reducible exact LW.drew | with_reducible exact L41 | with_reducible exact L41.drew)); rintro e w40 ⟨u40, rfl, I40, B40, L40⟩; (obtain ⟨ad40, cp40, rfl⟩ := I40.row.is); (have a0 := L40.c0); (have a1 := L40.c1); (have a2 := L40.c2); (have a3 := L40.c3); (have a4 := L40.c4); (have a5 := L40.c5); (obtain ⟨x1, y1⟩ := Option.isSome_iff_exists.1 (L40.ln.e1 k hkc)); (obtain ⟨x2, y2⟩ := Option.isSome_iff_exists.1 (L40.ln.e2 k hkc)); (have z1 := L40.ln.f1 k); (have z2 := L40.ln.f2 k)) | (go_at_call 58; refine (h41 _ ?_).mono ?_; (focus (first | with_reducible exact LW | with_reducible exact LW.drew | with_reducible exact L40 | with_reducible exact L40.drew)); rintro e w41 ⟨u41, rfl, I41, B41, L41⟩; (obtain ⟨ad41, cp41, rfl⟩ := I41.row.is); (obtain ⟨x3, y3⟩ := Option.isSome_iff_exists.1 (L41.ln.e1 k hkc)); (obtain ⟨x4, y4⟩ := Option.isSome_iff_exists.1 (L41.ln.e2 k hkc)); (have z3 := L41.ln.f1 k); (have z4 := L41.ln.f2 k)))
        all_goals
          go_wp2
          go_roundw
          case rel => exact ⟨k + 1, by omega, by go_num, by first | exact (L41.ln.step hkc (I40.next B41) I41).drew | exact (L40.ln.step hkc I40 (I41.next B40)).drew | exact L41.ln.step hkc (I40.next B41) I41 | exact L40.ln.step hkc I40 (I41.next B40)⟩
          case measure => simp [intOf]; omega
      · obtain rfl : n = k := by omega
        have i1 : ¬ (n : Int) < (n : Int) := by omega
        obtain ⟨i6, hi6, hz60, hz61, hz62⟩ := info_parts info34
        have r1 := HK.out.r1
        have HBW : Hid (Below w.heap.size w wr) := LJ.out.b
        have A1 : ARows wr (.slice (some ⟨q1, 0, none⟩) n n) n (fun i => sucL (c.O i) (c.A i) (c.B i) (c.C i) i) := ⟨_, _, rfl, fun i hi => by
          obtain ⟨u, h1, h2⟩ := LJ.out.r1 i hi
          exact ⟨q1, 0, u, rfl, by rw [Nat.zero_add]; exact h1, h2.arow⟩⟩
        have A2 : Hid (ARows wr (.slice (some ⟨q2, 0, none⟩) n n) n (fun i => opsL (c.O i) (c.A i) (c.B i) (c.C i) (c.X i))) := ⟨_, _, rfl, fun i hi => by
          obtain ⟨u, h1, h2⟩ := LJ.out.r2 i hi
          exact ⟨q2, 0, u, rfl, by rw [Nat.zero_add]; exact h1, h2.arow⟩⟩
        have bs : ∀ i, i < n → ∀ t, t ∈ sucL (c.O i) (c.A i) (c.B i) (c.C i) i → 0 ≤ t ∧ t < (n : Int) := fun i hi t ht => HSu.out i hi t ht
        have bo : ∀ i, i < n → ∀ t, t ∈ opsL (c.O i) (c.A i) (c.B i) (c.C i) (c.X i) → 0 ≤ t ∧ t < (c.R : Int) := fun i hi t ht => HK.out.rd i (by rw [HN.out]; exact hi) t ht
        have h42a := turned42 n n (fun i => sucL (c.O i) (c.A i) (c.B i) (c.C i) i) _ wr A1 n1 n1 bs (fun i hi => by have := sucL_len (c.O i) (c.A i) (c.B i) (c.C i) i; show (sucL _ _ _ _ _).length ≤ 600; omega)
        have H42b : Hid (∀ v, Below wr.heap.size wr v → Calls Tryz.prog 86 #[.slice (some ⟨q2, 0, none⟩) n n, .int .i64 (c.R : Int)] v fun e w' => ∃ u, e = .returned u ∧ Cols v.heap.size w' u c.R (fun x => colL (fun i => opsL (c.O i) (c.A i) (c.B i) (c.C i) (c.X i)) n x) ∧ Below v.heap.size v w') := fun v b => turned42 n c.R (fun i => opsL (c.O i) (c.A i) (c.B i) (c.C i) (c.X i)) _ v (A2.out.next b) n1 (by omega) bo (fun i hi => by have := opsL_len (c.O i) (c.A i) (c.B i) (c.C i) (c.X i); show (opsL _ _ _ _ _).length ≤ 600; omega)
        have H43 : Hid (∀ v, Below w.heap.size w v → Calls Tryz.prog 36 #[.slice (some ⟨a, 0, none⟩) n cap] v fun e w' => e = .returned (.int .i64 (c.R : Int)) ∧ Below v.heap.size v w') := fun v b => (regs14 n a cap c.O c.D c.A c.B c.C c.X v (HF.out.below b) (HR.out.next b) (by rw [← HN.out]; exact HXx.out) (by omega)).mono fun e w' ⟨h1, h2⟩ => ⟨by rw [h1]; unfold regsV; rw [← HN.out, HGo.out, HRr.out]; rfl, h2⟩
        have HLs : Hid (∀ t, t < n → (colL (fun i => sucL (c.O i) (c.A i) (c.B i) (c.C i) i) n t).length ≤ 1800) := fun t ht => col_len3 _ n n t n1 (fun i hi => sucL_len _ _ _ _ _) bs ht
        have HLo : Hid (∀ t, t < c.R → (colL (fun i => opsL (c.O i) (c.A i) (c.B i) (c.C i) (c.X i)) n t).length ≤ 1800) := fun t ht => col_len3 _ n c.R t n1 (fun i hi => opsL_len _ _ _ _ _) bo ht
        have HCs : Hid (∀ t : Nat, t < n → ∀ k : Int, k ∈ colL (fun i => sucL (c.O i) (c.A i) (c.B i) (c.C i) i) n t ↔ 0 ≤ k ∧ k < n ∧ (t : Int) ∈ sucL (c.O k.toNat) (c.A k.toNat) (c.B k.toNat) (c.C k.toNat) k.toNat) := fun t ht k => colL_mem (fun i => sucL (c.O i) (c.A i) (c.B i) (c.C i) i) t k n
        have HCo : Hid (∀ (r : Nat) (t : Int), t ∈ colL (fun i => opsL (c.O i) (c.A i) (c.B i) (c.C i) (c.X i)) n r ↔ 0 ≤ t ∧ t < n ∧ (r : Int) ∈ opsL (c.O t.toNat) (c.A t.toNat) (c.B t.toNat) (c.C t.toNat) (c.X t.toNat)) := fun r t => colL_mem (fun i => opsL (c.O i) (c.A i) (c.B i) (c.C i) (c.X i)) r t n
        clear LJ A1 A2 bs bo
        go_wp2_with (first | (go_at_call 86; (with_reducible show Calls Tryz.prog 86 _ wr _); refine h42a.mono ?_; rintro e w1 ⟨u1, rfl, C1, B1⟩; (obtain ⟨gc1, g1, rfl, p1, p2, T1⟩ := C1)) | (go_at_call 36; refine (H43.out w1 (HBW.out.trans (B1.mono HBW.out.size))).mono ?_; rintro e w2 ⟨rfl, B2⟩) | (go_at_call 86; refine (H42b.out w2 (B1.trans (B2.mono B1.size))).mono ?_; rintro e w3 ⟨u3, rfl, C3, B3⟩; (obtain ⟨gc3, g3, rfl, p3, p4, T3⟩ := C3)))
        have HT1 : Hid (Tc w3 gc1 g1 n (fun x => (colL (fun i => sucL (c.O i) (c.A i) (c.B i) (c.C i) i) n x).length) (fun x => colL (fun i => sucL (c.O i) (c.A i) (c.B i) (c.C i) i) n x)) := (T1.next B2).next B3
        have HT3 : Hid (Tc w3 gc3 g3 c.R (fun x => (colL (fun i => opsL (c.O i) (c.A i) (c.B i) (c.C i) (c.X i)) n x).length) (fun x => colL (fun i => opsL (c.O i) (c.A i) (c.B i) (c.C i) (c.X i)) n x)) := T3
        have HB3 : Hid (Below w.heap.size w w3) := by
          have h1 := HBW.out.trans (B1.mono HBW.out.size)
          have h2 := h1.trans (B2.mono h1.size)
          exact h2.trans (B3.mono h2.size)
        obtain ⟨b, hb⟩ : ∃ b, w3.heap.size = b := ⟨_, rfl⟩
        have HBb : Hid (w3.heap.size = b) := hb
        have HWb : Hid (w.heap.size ≤ b) := by have := HB3.out.size; show _ ≤ _; omega
        have U3 : Hid (RegI b w3 (.slice none 0 0) 0 (fun r => whL (fun k => lbB c k r) n)) := ⟨[], World.ownsRow_nil _ _ _ _, fun i hi => by omega⟩
        have BJ3 : Hid (Below b w3 w3) := Below.refl _ _
        have SJ3 : Hid (b ≤ w3.heap.size) := by show _ ≤ _; omega
        clear T1 T3 B1 B2 B3 h42a H42b H43 hb HBW
        go_loopw [8, 45] (fun vv i wx => ∃ (r : Nat) (u : Value), r ≤ c.R ∧ i = .int .i64 r ∧ u = vv ∧ Hid (RegI b wx u r (fun r => whL (fun k => lbB c k r) n)) ∧ Hid (Below b w3 wx) ∧ Hid (b ≤ wx.heap.size)) (fun _ i _ => c.R - (intOf i).toNat)
        case atStart => exact ⟨0, _, Nat.zero_le _, rfl, rfl, U3, BJ3, SJ3⟩
        case round =>
          obtain ⟨r, u, hr, rfl, rfl, HU, HB, HS⟩ := hrel
          clear U3 BJ3 SJ3
          have B3x : Below w3.heap.size w3 wr := by rw [HBb.out]; exact HB.out
          have HBx : Hid (Below w.heap.size w wr) := HB3.out.trans (B3x.mono HB3.out.size)
          by_cases hrn : r < c.R
          · have i1 : (r : Int) < (c.R : Int) := by omega
            have i0 : (0 : Int) ≤ (r : Int) := by omega
            have T1x := HT1.out.next B3x
            have T3x := HT3.out.next B3x
            obtain ⟨o, cr, ho⟩ := T3x.col r hrn
            have h44 := lives44 n a cap c.R r c HK.out HN.out wr (HR.out.next HBx.out) g3 o (colL (fun i => opsL (c.O i) (c.A i) (c.B i) (c.C i) (c.X i)) n r).length (colL (fun i => opsL (c.O i) (c.A i) (c.B i) (c.C i) (c.X i)) n r) (fun i hi => by rw [ho (by show 0 < (colL _ n r).length; omega)]; exact T3x.cel r hrn i hi) (HCo.out r) (HLo.out r hrn) (.slice (some ⟨gc1, 0, none⟩) n n) (fun x => colL (fun i => sucL (c.O i) (c.A i) (c.B i) (c.C i) i) n x) (Cols.arows (B := 0) ⟨gc1, g1, rfl, Nat.zero_le _, Nat.zero_le _, T1x⟩) HCs.out HLs.out
            have HUb : Hid (∀ q, u.ownBlock = some q → b ≤ q ∧ q < wr.heap.size) := fun q hq => by obtain ⟨vs, h1, _⟩ := HU.out; exact h1.lt q hq
            obtain ⟨L, hL⟩ : ∃ L, whL (fun k => lbB c k r) n = L := ⟨_, rfl⟩
            have HL : Hid (whL (fun k => lbB c k r) n = L) := hL
            have HLl : Hid (L.length ≤ 600) := by show _ ≤ _; rw [← hL]; have := whL_len (fun k => lbB c k r) n; omega
            rw [hL] at h44
            have cr' : wr.cell? ⟨gc3, r, none⟩ = some (.slice (some ⟨g3, o, none⟩) (colL (fun i => opsL (c.O i) (c.A i) (c.B i) (c.C i) (c.X i)) n r).length (colL (fun i => opsL (c.O i) (c.A i) (c.B i) (c.C i) (c.X i)) n r).length) := cr
            generalize (colL (fun i => opsL (c.O i) (c.A i) (c.B i) (c.C i) (c.X i)) n r).length = lr at h44 cr'
            clear hL T1x T3x ho cr B3x
            go_wp2_with (first | (go_at_call 109; refine h44.mono ?_; rintro e w4 ⟨v1, rfl, I1, B4⟩; obtain ⟨ad1, cp1, rfl⟩ := I1.row.is; obtain ⟨vs, V1, V2⟩ := (HU.out.next B4).next ((Below.refl _ _).alloc (Nat.le_refl _) (.cells #[.slice ad1 L.length cp1] 24))) | (at_builtin; refine wpList_append_lies _ rfl _ _ 78 rfl b 24 i6 (.slice none 0 0) 1 24 Tryz.underlying78 hi6 hz60 hz61 hz62 rfl (by decide) _ _ _ rfl V1 ⟨_, 0, none⟩ 1 1 [.slice ad1 L.length cp1] rfl rfl ?_ ?_ (by decide) ?_ ?_ ?_ _ rfl ?_))
            · intro j u hj
              match j, hj with
              | 0, hj => simp at hj; subst hj; simp [Addr.add]
            · intro u hu; simp at hu; subst hu; rfl
            · unfold maxLen; omega
            · omega
            · have := HS.out; have := B4.size; simp at *; omega
            intro g5 c5' w5 hown hgrow hat hlt
            have BAl : Below w4.heap.size w4 (w4.alloc (.cells #[.slice ad1 L.length cp1] 24)) := (Below.refl _ _).alloc (Nat.le_refl _) _
            have h1 : Below b w3 w4 := HB.out.trans (B4.mono HS.out)
            have h2 : Below b w3 (w4.alloc (.cells #[.slice ad1 L.length cp1] 24)) := h1.trans (BAl.mono (by have := HS.out; have := B4.size; omega))
            have B5 : Hid (Below b w3 w5) := h2.grown hgrow (by have := HBb.out; have := h2.size; omega) (fun q hq => (V1.lt q hq).1)
            have S5 : Hid (b ≤ w5.heap.size) := by have := HS.out; have := B4.size; have := BAl.size; have := hgrow.size; show _ ≤ _; omega
            have U5 : Hid (RegI b w5 (.slice (some ⟨g5, 0, none⟩) (r + 1) c5') (r + 1) (fun r => whL (fun k => lbB c k r) n)) := RegI.more V1 V2 (by show IRow _ _ (whL (fun k => lbB c k r) n); rw [HL.out]; exact (I1.row).next BAl) (fun q hq e => by
              have h1 := (HUb.out q e).2
              have h2 := I1.lt q hq
              omega) hown hgrow (hat.imp id (fun e => by rw [e]; simp))
            clear hown hgrow hat hlt V1 V2 h1 h2 HB BAl B4 I1 HU HS h44
            go_wp2
            go_roundw
            case rel => exact ⟨r + 1, _, by omega, by go_num, rfl, U5, B5, S5⟩
            case measure => simp [intOf]; omega
          · obtain rfl : r = c.R := by omega
            have i1 : ¬ (c.R : Int) < (c.R : Int) := by omega
            have h42 := turned42 c.R n (fun r => whL (fun k => lbB c k r) n) u wr HU.out.arows (by omega) n1 (fun i hi t ht => by have := (whL_mem _ t n).1 ht; exact ⟨this.1, this.2.1⟩) (fun i hi => by have := whL_len (fun k => lbB c k i) n; show (whL _ n).length ≤ 600; omega)
            clear HU HS HT1 HT3
            go_wp2_with (go_at_call 86; refine h42.mono ?_; rintro e w6 ⟨u6, rfl, C6, B6⟩)
            go_ret
            exact ⟨u6, rfl, (C6.ext (fun k hk => col_live (lbB c) n k hk c.R)).low HBx.out.size, HBx.out.trans (B6.mono HBx.out.size)⟩
end Go.Proofs.YtmeokhppaekhpaaGreatDoor
