/- The model's LiveOf and ClashesOf, of good code. -/
import Derived.Test.YtmeokhppaekhpaaDoorClw
import Derived.Test.YtmeokhppaekhpaaDoorWhr
import Derived.Deep.AppendLies
namespace Go.Proofs.YtmeokhppaekhpaaDoor
open Go.ChangeShapes Go.WideShapes Go.ChangeAt Go.RowKit
set_option linter.unusedVariables false
theorem info34 : (Tryd.prog.info? 40).map (fun i => (i.zero, i.size, i.bytes)) = some (some (.slice none 0 0), 1, 24) := by kernel_rfl
theorem IRow.grown {w w' : World} {v : Value} {L : List Int} {row : Option Nat} (h : IRow w v L) (g : w.grownBy w' row) (hne : ∀ q, v.ownBlock = some q → some q ≠ row) : IRow w' v L := by
  rcases h with h | ⟨b, c, hv, hc, O⟩
  · exact Or.inl h
  · exact Or.inr ⟨b, c, hv, hc, own_grown O g (hne b (by rw [hv]; rfl))⟩
theorem IRow.lt {w : World} {v : Value} {L : List Int} (h : IRow w v L) : ∀ q, v.ownBlock = some q → q < w.heap.size := fun q hq => by
  rcases h with ⟨_, rfl⟩ | ⟨b, c, rfl, hc, O⟩
  · simp [Value.ownBlock] at hq
  · simp [Value.ownBlock] at hq
    subst hq
    exact O.hi
/-- Rows of numbers whose slices stand in a row that is being made. -/
def RegI (B : Nat) (w : World) (u : Value) (k : Nat) (f : Nat → List Int) : Prop := ∃ vs, w.ownsRow B 40 1 u k vs ∧ ∀ i, i < k → ∃ v, vs[i]? = some v ∧ IRow w v (f i) ∧ ∀ q, v.ownBlock = some q → u.ownBlock ≠ some q
theorem RegI.next {B : Nat} {w w' : World} {u : Value} {k : Nat} {f : Nat → List Int} (h : RegI B w u k f) (b : Below w.heap.size w w') : RegI B w' u k f := by
  obtain ⟨vs, h1, h2⟩ := h
  refine ⟨vs, h1.kept (row := none) ⟨b.os, b.tape, b.output, b.size, fun i hi _ => b.block i hi⟩ (by cases e : u.ownBlock <;> simp), fun i hi => ?_⟩
  obtain ⟨v, q1, q2, q3⟩ := h2 i hi
  exact ⟨v, q1, q2.next b, q3⟩
theorem RegI.more {B g k cap : Nat} {w w' : World} {u v : Value} {f : Nat → List Int} {vs : List Value} (h1 : w.ownsRow B 40 1 u k vs) (h2 : ∀ i, i < k → ∃ v, vs[i]? = some v ∧ IRow w v (f i) ∧ ∀ q, v.ownBlock = some q → u.ownBlock ≠ some q) (hv : IRow w v (f k)) (hvu : ∀ q, v.ownBlock = some q → u.ownBlock ≠ some q) (hown : w'.ownsRow B 40 1 (.slice (some ⟨g, 0, none⟩) (k + 1) cap) (k + 1) (vs ++ [v])) (hg : w.grownBy w' u.ownBlock) (hat : u.ownBlock = some g ∨ g = w.heap.size) : RegI B w' (.slice (some ⟨g, 0, none⟩) (k + 1) cap) (k + 1) f := by
  have hl : vs.length = k := by have := h1.1; omega
  have key : ∀ (u' : Value) (L : List Int), IRow w u' L → (∀ q, u'.ownBlock = some q → u.ownBlock ≠ some q) → IRow w' u' L ∧ ∀ q, u'.ownBlock = some q → (Value.slice (some ⟨g, 0, none⟩) (k + 1) cap).ownBlock ≠ some q := fun u' L i n => by
    refine ⟨i.grown hg (fun q hq e => n q hq e.symm), fun q hq e => ?_⟩
    have e : g = q := by simpa [Value.ownBlock] using e
    subst e
    rcases hat with e | e
    · exact n g hq e
    · have := i.lt g hq; omega
  refine ⟨vs ++ [v], hown, fun i hi => ?_⟩
  by_cases e : i < k
  · obtain ⟨v', q1, q2, q3⟩ := h2 i e
    obtain ⟨r1, r2⟩ := key v' _ q2 q3
    exact ⟨v', by rw [List.getElem?_append_left (by omega)]; exact q1, r1, r2⟩
  · obtain rfl : i = k := by omega
    obtain ⟨r1, r2⟩ := key v _ hv hvu
    exact ⟨v, by rw [List.getElem?_append_right (by omega), hl]; simp, r1, r2⟩

set_option maxRecDepth 100000 in
set_option maxHeartbeats 4000000 in
theorem live10 (n a cap R : Nat) (c : Cd) (K : LvOk c R) (w : World) (hn : c.n = n) (RI : RowI w a n c.O c.D c.A c.B c.C c.X) (h34 : Calls Tryd.prog 19 #[.slice (some ⟨a, 0, none⟩) n cap] w fun e w' => e = .returned (.bool true) ∧ Below w.heap.size w w') (h62 : ∀ v, Below w.heap.size w v → Calls Tryd.prog 32 #[.slice (some ⟨a, 0, none⟩) n cap] v fun e w' => e = .returned (.int .i64 (R : Int)) ∧ Below v.heap.size v w') : Calls Tryd.prog 7 #[.slice (some ⟨a, 0, none⟩) n cap] w fun e w' => ∃ u, e = .returned (.tuple #[u, .bool true]) ∧ RegI w.heap.size w' u n (fun k => lsF ((lbB c) k) R) ∧ Below w.heap.size w w' := by
  obtain ⟨i6, hi6, hz60, hz61, hz62⟩ := info_parts info34
  have n1 : n ≤ 600 := by rw [← hn]; exact K.n1
  have r1 := K.r1
  have HC : Hid (∀ v, Below w.heap.size w v → Calls Tryd.prog 20 #[.slice (some ⟨a, 0, none⟩) n cap] v fun e w' => ∃ qb p0 pb, e = .returned (.tuple #[.slice (some ⟨qb, 0, none⟩) n n, .slice (some ⟨p0, 0, none⟩) R R]) ∧ Gr2 w' qb n R pb (lbB c) ∧ Own w' p0 R (fun r => .bool (laB c 0 r)) ∧ (v.heap.size ≤ qb ∧ v.heap.size ≤ p0 ∧ ∀ k, k < n → v.heap.size ≤ pb k) ∧ Below v.heap.size v w') := fun v b => live35 n a cap R c K v hn (RI.next b) (h62 v b)
  clear RI K hn h62
  go_enter Tryd.func7, Tryd.ntmps7
  go_wp2_with (first | (go_at_call 19; refine h34.mono ?_; rintro e w1 ⟨rfl, B1⟩) | (go_at_call 20; refine (HC.out _ B1).mono ?_; rintro e w2 ⟨qb, p0, pb, rfl, GB, OF, LO, B2⟩))
  have G2 : Hid (Gr2 w2 qb n R pb (lbB c)) := GB
  have HB2 : Hid (Below w.heap.size w w2) := B1.trans (B2.mono B1.size)
  obtain ⟨b, hb⟩ : ∃ b, w2.heap.size = b := ⟨_, rfl⟩
  have HQ : Hid (w.heap.size ≤ b ∧ qb < b ∧ ∀ k, k < n → pb k < b) := ⟨by have := HB2.out.size; omega, by have := GB.hi; omega, fun k hk => by have := (GB.row k hk).hi; omega⟩
  have U2 : Hid (RegI b w2 (.slice none 0 0) 0 (fun k => lsF ((lbB c) k) R)) := ⟨[], World.ownsRow_nil _ _ _ _, fun i hi => by omega⟩
  have HBb : Hid (b ≤ w2.heap.size) := by show _ ≤ _; omega
  clear GB B1 B2 hb HC h34
  go_loopw [6, 19] (fun vv i wx => ∃ (k : Nat) (u : Value), k ≤ n ∧ i = .int .i64 k ∧ u = vv ∧ Hid (RegI b wx u k (fun k => lsF ((lbB c) k) R)) ∧ Hid (Gr2 wx qb n R pb (lbB c)) ∧ Hid (Below w.heap.size w wx) ∧ Hid (b ≤ wx.heap.size)) (fun _ i _ => n - (intOf i).toNat)
  case atStart => exact ⟨0, _, Nat.zero_le _, rfl, rfl, U2, G2, HB2, HBb⟩
  case round =>
    obtain ⟨k, u, hk, rfl, rfl, HU, HG, HB, HS⟩ := hrel
    clear U2 G2 HB2 HBb
    by_cases hkn : k < n
    · have i1 : (k : Int) < (n : Int) := by omega
      have i0 : (0 : Int) ≤ (k : Int) := by omega
      have pk := HG.out.ptr k hkn
      have h36 := list36 R (pb k) R ((lbB c) k) wr (HG.out.row k hkn) (by omega)
      have HUb : Hid (∀ q, u.ownBlock = some q → b ≤ q ∧ q < wr.heap.size) := fun q hq => by obtain ⟨vs, h1, _⟩ := HU.out; exact h1.lt q hq
      obtain ⟨L, hL⟩ : ∃ L, lsF ((lbB c) k) R = L := ⟨_, rfl⟩
      have HL : Hid (lsF ((lbB c) k) R = L) := hL
      rw [hL] at h36
      clear hL
      go_wp2_with (first | (go_at_call 21; refine h36.mono ?_; rintro e w3 ⟨v1, rfl, I1, B3⟩; obtain ⟨ad1, cp1, rfl⟩ := I1.own.row.is; obtain ⟨vs, V1, V2⟩ := (HU.out.next B3).next ((Below.refl _ _).alloc (Nat.le_refl _) (.cells #[.slice ad1 L.length cp1] 40))) | (at_builtin; refine wpList_append_lies _ rfl _ _ 24 rfl b 40 i6 (.slice none 0 0) 1 24 Tryd.underlying24 hi6 hz60 hz61 hz62 rfl (by decide) _ _ _ rfl V1 ⟨_, 0, none⟩ 1 1 [.slice ad1 L.length cp1] rfl rfl ?_ ?_ (by decide) ?_ ?_ ?_ _ rfl ?_))
      · intro j u hj
        match j, hj with
        | 0, hj => simp at hj; subst hj; simp [Addr.add]
      · intro u hu; simp at hu; subst hu; rfl
      · unfold maxLen; omega
      · omega
      · have := HS.out; have := B3.size; simp at *; omega
      intro g3 c3' w4 hown hgrow hat hlt
      have BAl : Below w3.heap.size w3 (w3.alloc (.cells #[.slice ad1 L.length cp1] 40)) := (Below.refl _ _).alloc (Nat.le_refl _) _
      have h1 := HB.out.trans (B3.mono HB.out.size)
      have h2 := h1.trans (BAl.mono h1.size)
      have B4 : Hid (Below w.heap.size w w4) := h2.grown hgrow h2.size (fun q hq => by have := (V1.lt q hq).1; have := HQ.out.1; omega)
      have S4 : Hid (b ≤ w4.heap.size) := by have := HS.out; have := B3.size; have := BAl.size; have := hgrow.size; show _ ≤ _; omega
      have GB4 := (HG.out.next B3).next BAl
      have NE : ∀ q, q < b → some q ≠ u.ownBlock := fun q hq e => by have := (HUb.out q e.symm).1; omega
      have G4 : Hid (Gr2 w4 qb n R pb (lbB c)) := ⟨fun i hi => (World.cell?_of_block (a := ⟨qb, i, none⟩) (hgrow.block qb GB4.hi (NE qb HQ.out.2.1))).trans (GB4.ptr i hi), fun i hi => own_grown (GB4.row i hi) hgrow (NE _ (HQ.out.2.2 i hi)), Nat.lt_of_lt_of_le GB4.hi hgrow.size⟩
      have U4 : Hid (RegI b w4 (.slice (some ⟨g3, 0, none⟩) (k + 1) c3') (k + 1) (fun k => lsF ((lbB c) k) R)) := RegI.more V1 V2 (by rw [HL.out]; exact (I1.own.row).next BAl) (fun q hq e => by
        have h1 := (HUb.out q e).2
        have h2 := (I1.lt q hq).1
        omega) hown hgrow (hat.imp id (fun e => by rw [e]; simp))
      clear hown hgrow hat hlt V1 V2 h1 h2 GB4 NE HB BAl B3 I1 HU HG HS h36
      go_wp2
      go_roundw
      case rel => exact ⟨k + 1, _, by omega, by go_num, rfl, U4, G4, B4, S4⟩
      case measure => simp [intOf]; omega
    · obtain rfl : n = k := by omega
      have i1 : ¬ (n : Int) < (n : Int) := by omega
      have UE : Hid (RegI w.heap.size wr u n (fun k => lsF ((lbB c) k) R)) := by
        obtain ⟨vs, V1, V2⟩ := HU.out
        exact ⟨vs, ⟨V1.1, V1.2.imp id (fun ⟨g, cp, cur, h1, h2, h3⟩ => ⟨g, cp, cur, h1, Nat.le_trans HQ.out.1 h2, h3⟩)⟩, V2⟩
      clear HU HG HS
      go_wp2
      go_ret2
      exact ⟨_, rfl, UE.out, HB.out⟩
set_option maxRecDepth 100000 in
set_option maxHeartbeats 4000000 in
theorem clashes18 (n a cap R : Nat) (c : Cd) (K : LvOk c R) (hD : ∀ k, k < n → nmd (c.O k) 0 = true → c.D k < R) (w : World) (hn : c.n = n) (RI : RowI w a n c.O c.D c.A c.B c.C c.X) (h34 : Calls Tryd.prog 19 #[.slice (some ⟨a, 0, none⟩) n cap] w fun e w' => e = .returned (.bool true) ∧ Below w.heap.size w w') (h62 : ∀ v, Below w.heap.size w v → Calls Tryd.prog 32 #[.slice (some ⟨a, 0, none⟩) n cap] v fun e w' => e = .returned (.int .i64 (R : Int)) ∧ Below v.heap.size v w') : Calls Tryd.prog 15 #[.slice (some ⟨a, 0, none⟩) n cap] w fun e w' => ∃ u, e = .returned (.tuple #[u, .bool true]) ∧ RegI w.heap.size w' u R (fun k => lsF ((clB c R n) k) R) ∧ Below w.heap.size w w' := by
  obtain ⟨i6, hi6, hz60, hz61, hz62⟩ := info_parts info34
  have n1 : n ≤ 600 := by rw [← hn]; exact K.n1
  have r1 := K.r1
  have HC : Hid (∀ v, Below w.heap.size w v → Calls Tryd.prog 29 #[.slice (some ⟨a, 0, none⟩) n cap] v fun e w' => ∃ q p, e = .returned (.slice (some ⟨q, 0, none⟩) R R) ∧ Gr2 w' q R R p (clB c R n) ∧ Below v.heap.size v w') := fun v b => clashes45 n a cap R c K hD v hn (RI.next b) (fun v' b' => h62 v' (b.trans (b'.mono b.size)))
  clear RI K hn h62
  go_enter Tryd.func15, Tryd.ntmps15
  go_wp2_with (first | (go_at_call 19; refine h34.mono ?_; rintro e w1 ⟨rfl, B1⟩) | (go_at_call 29; refine (HC.out _ B1).mono ?_; rintro e w2 ⟨qb, pb, rfl, GB, B2⟩))
  have G2 : Hid (Gr2 w2 qb R R pb (clB c R n)) := GB
  have HB2 : Hid (Below w.heap.size w w2) := B1.trans (B2.mono B1.size)
  obtain ⟨b, hb⟩ : ∃ b, w2.heap.size = b := ⟨_, rfl⟩
  have HQ : Hid (w.heap.size ≤ b ∧ qb < b ∧ ∀ k, k < R → pb k < b) := ⟨by have := HB2.out.size; omega, by have := GB.hi; omega, fun k hk => by have := (GB.row k hk).hi; omega⟩
  have U2 : Hid (RegI b w2 (.slice none 0 0) 0 (fun k => lsF ((clB c R n) k) R)) := ⟨[], World.ownsRow_nil _ _ _ _, fun i hi => by omega⟩
  have HBb : Hid (b ≤ w2.heap.size) := by show _ ≤ _; omega
  clear GB B1 B2 hb HC h34
  go_loopw [4, 13] (fun vv i wx => ∃ (k : Nat) (u : Value), k ≤ R ∧ i = .int .i64 k ∧ u = vv ∧ Hid (RegI b wx u k (fun k => lsF ((clB c R n) k) R)) ∧ Hid (Gr2 wx qb R R pb (clB c R n)) ∧ Hid (Below w.heap.size w wx) ∧ Hid (b ≤ wx.heap.size)) (fun _ i _ => R - (intOf i).toNat)
  case atStart => exact ⟨0, _, Nat.zero_le _, rfl, rfl, U2, G2, HB2, HBb⟩
  case round =>
    obtain ⟨k, u, hk, rfl, rfl, HU, HG, HB, HS⟩ := hrel
    clear U2 G2 HB2 HBb
    by_cases hkn : k < R
    · have i1 : (k : Int) < (R : Int) := by omega
      have i0 : (0 : Int) ≤ (k : Int) := by omega
      have pk := HG.out.ptr k hkn
      have h36 := list36 R (pb k) R ((clB c R n) k) wr (HG.out.row k hkn) (by omega)
      have HUb : Hid (∀ q, u.ownBlock = some q → b ≤ q ∧ q < wr.heap.size) := fun q hq => by obtain ⟨vs, h1, _⟩ := HU.out; exact h1.lt q hq
      obtain ⟨L, hL⟩ : ∃ L, lsF ((clB c R n) k) R = L := ⟨_, rfl⟩
      have HL : Hid (lsF ((clB c R n) k) R = L) := hL
      rw [hL] at h36
      clear hL
      go_wp2_with (first | (go_at_call 21; refine h36.mono ?_; rintro e w3 ⟨v1, rfl, I1, B3⟩; obtain ⟨ad1, cp1, rfl⟩ := I1.own.row.is; obtain ⟨vs, V1, V2⟩ := (HU.out.next B3).next ((Below.refl _ _).alloc (Nat.le_refl _) (.cells #[.slice ad1 L.length cp1] 40))) | (at_builtin; refine wpList_append_lies _ rfl _ _ 24 rfl b 40 i6 (.slice none 0 0) 1 24 Tryd.underlying24 hi6 hz60 hz61 hz62 rfl (by decide) _ _ _ rfl V1 ⟨_, 0, none⟩ 1 1 [.slice ad1 L.length cp1] rfl rfl ?_ ?_ (by decide) ?_ ?_ ?_ _ rfl ?_))
      · intro j u hj
        match j, hj with
        | 0, hj => simp at hj; subst hj; simp [Addr.add]
      · intro u hu; simp at hu; subst hu; rfl
      · unfold maxLen; omega
      · omega
      · have := HS.out; have := B3.size; simp at *; omega
      intro g3 c3' w4 hown hgrow hat hlt
      have BAl : Below w3.heap.size w3 (w3.alloc (.cells #[.slice ad1 L.length cp1] 40)) := (Below.refl _ _).alloc (Nat.le_refl _) _
      have h1 := HB.out.trans (B3.mono HB.out.size)
      have h2 := h1.trans (BAl.mono h1.size)
      have B4 : Hid (Below w.heap.size w w4) := h2.grown hgrow h2.size (fun q hq => by have := (V1.lt q hq).1; have := HQ.out.1; omega)
      have S4 : Hid (b ≤ w4.heap.size) := by have := HS.out; have := B3.size; have := BAl.size; have := hgrow.size; show _ ≤ _; omega
      have GB4 := (HG.out.next B3).next BAl
      have NE : ∀ q, q < b → some q ≠ u.ownBlock := fun q hq e => by have := (HUb.out q e.symm).1; omega
      have G4 : Hid (Gr2 w4 qb R R pb (clB c R n)) := ⟨fun i hi => (World.cell?_of_block (a := ⟨qb, i, none⟩) (hgrow.block qb GB4.hi (NE qb HQ.out.2.1))).trans (GB4.ptr i hi), fun i hi => own_grown (GB4.row i hi) hgrow (NE _ (HQ.out.2.2 i hi)), Nat.lt_of_lt_of_le GB4.hi hgrow.size⟩
      have U4 : Hid (RegI b w4 (.slice (some ⟨g3, 0, none⟩) (k + 1) c3') (k + 1) (fun k => lsF ((clB c R n) k) R)) := RegI.more V1 V2 (by rw [HL.out]; exact (I1.own.row).next BAl) (fun q hq e => by
        have h1 := (HUb.out q e).2
        have h2 := (I1.lt q hq).1
        omega) hown hgrow (hat.imp id (fun e => by rw [e]; simp))
      clear hown hgrow hat hlt V1 V2 h1 h2 GB4 NE HB BAl B3 I1 HU HG HS h36
      go_wp2
      go_roundw
      case rel => exact ⟨k + 1, _, by omega, by go_num, rfl, U4, G4, B4, S4⟩
      case measure => simp [intOf]; omega
    · obtain rfl : R = k := by omega
      have i1 : ¬ (R : Int) < (R : Int) := by omega
      have UE : Hid (RegI w.heap.size wr u R (fun k => lsF ((clB c R n) k) R)) := by
        obtain ⟨vs, V1, V2⟩ := HU.out
        exact ⟨vs, ⟨V1.1, V1.2.imp id (fun ⟨g, cp, cur, h1, h2, h3⟩ => ⟨g, cp, cur, h1, Nat.le_trans HQ.out.1 h2, h3⟩)⟩, V2⟩
      clear HU HG HS
      go_wp2
      go_ret2
      exact ⟨_, rfl, UE.out, HB.out⟩
end Go.Proofs.YtmeokhppaekhpaaDoor
