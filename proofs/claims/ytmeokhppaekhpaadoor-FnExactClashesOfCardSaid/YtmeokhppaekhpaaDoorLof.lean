/- The model's PressureOf, of good code. LiveOf and PressureOf of both sides, of any code. -/
import Derived.Test.YtmeokhppaekhpaaDoorLwo
import Derived.Test.YtmeokhppaekhpaaDoorLiv
namespace Go.Proofs.YtmeokhppaekhpaaDoor
open Go.ChangeShapes Go.WideShapes Go.ChangeAt Go.RowKit
set_option linter.unusedVariables false
/-- The greatest of the first k. -/
def mxF (f : Nat → Nat) : Nat → Nat
  | 0 => 0
  | k + 1 => if mxF f k < f k then f k else mxF f k
set_option maxRecDepth 100000 in
set_option maxHeartbeats 4000000 in
theorem press32 (n a cap R : Nat) (c : Cd) (K : LvOk c R) (w : World) (hn : c.n = n) (RI : RowI w a n c.O c.D c.A c.B c.C c.X) (h34 : Calls Tryd.prog 19 #[.slice (some ⟨a, 0, none⟩) n cap] w fun e w' => e = .returned (.bool true) ∧ Below w.heap.size w w') (h62 : ∀ v, Below w.heap.size w v → Calls Tryd.prog 32 #[.slice (some ⟨a, 0, none⟩) n cap] v fun e w' => e = .returned (.int .i64 (R : Int)) ∧ Below v.heap.size v w') : Calls Tryd.prog 17 #[.slice (some ⟨a, 0, none⟩) n cap] w fun e w' => e = .returned (.int .i64 (mxF (fun k => (lsF (lbB c k) R).length) n : Nat)) ∧ Below w.heap.size w w' := by
  have n1 : n ≤ 600 := by rw [← hn]; exact K.n1
  have n0 : 1 ≤ n := by rw [← hn]; exact K.n0
  have h10 := live10 n a cap R c K w hn RI h34 h62
  have HF : Hid (∀ k, (fun k => (lsF (lbB c k) R).length) k = ((fun k => lsF (lbB c k) R) k).length) := fun k => rfl
  generalize (fun k => (lsF (lbB c k) R).length) = m at HF ⊢
  generalize (fun k => lsF (lbB c k) R) = f at h10 HF
  clear RI K hn h34 h62
  go_enter Tryd.func17, Tryd.ntmps17
  go_wp2_with (go_at_call 7; refine h10.mono ?_; rintro e w1 ⟨u, rfl, RG, B1⟩; (obtain ⟨vs, V1, V2⟩ := RG); (obtain ⟨g, cp, rfl, hgB, hgl⟩ := World.ownsRow.form V1 (by omega)))
  have HV : Hid (∀ i, i < n → ∃ ad cc, w1.cell? ⟨g, i, none⟩ = some (.slice ad (m i) cc)) := fun i hi => by
    obtain ⟨v, q1, q2, _⟩ := V2 i hi
    obtain ⟨ad, cc, rfl⟩ := q2.is
    exact ⟨ad, cc, by rw [V1.cellAt i (by omega), q1, HF.out]⟩
  have HB1 : Hid (Below w.heap.size w w1) := B1
  clear V1 V2 hgB hgl h10 B1
  go_loop [5, 17] (fun mv i => ∃ k : Nat, k ≤ n ∧ i = .int .i64 k ∧ mv = .int .i64 (mxF m k : Nat)) (fun _ i => n - (intOf i).toNat)
  case atStart => exact ⟨0, Nat.zero_le _, rfl, rfl⟩
  case round =>
    obtain ⟨k, hk, rfl, rfl⟩ := hrel
    by_cases hkn : k < n
    · have i1 : (k : Int) < (n : Int) := by omega
      have i0 : (0 : Int) ≤ (k : Int) := by omega
      obtain ⟨ad, cc, ck⟩ := HV.out k hkn
      have HM : Hid (mxF m (k + 1) = if mxF m k < m k then m k else mxF m k) := rfl
      generalize mxF m k = x at HM ⊢
      generalize m k = y at HM ck
      by_cases hxy : x < y
      · have HM2 : Hid (mxF m (k + 1) = y) := by show _ = _; rw [HM.out, if_pos hxy]
        have j1 : (x : Int) < (y : Int) := by omega
        go_wp2
        go_round
        case rel => exact ⟨k + 1, by omega, by go_num, by rw [HM2.out]⟩
        case measure => simp [intOf]; omega
      · have HM2 : Hid (mxF m (k + 1) = x) := by show _ = _; rw [HM.out, if_neg hxy]
        have j1 : ¬ (x : Int) < (y : Int) := by omega
        go_wp2
        go_round
        case rel => exact ⟨k + 1, by omega, by go_num, by rw [HM2.out]⟩
        case measure => simp [intOf]; omega
    · obtain rfl : n = k := by omega
      have i1 : ¬ (n : Int) < (n : Int) := by omega
      go_wp2
      go_ret
      exact ⟨rfl, HB1.out⟩
end Go.Proofs.YtmeokhppaekhpaaDoor
namespace Go.Proofs.YtmeokhppaekhpaaDoor
open Go.ChangeShapes Go.WideShapes Go.ChangeAt Go.RowKit
set_option linter.unusedVariables false
/-- The registers that live behind each instruction. -/
noncomputable def lvL (c : Cd) : Nat → List Int := fun k => lsF (lbB c k) c.R
def Cd.good (c : Cd) : Bool := goodC c.O c.D c.A c.B c.C c.X c.n
/-- For how many instructions there is an answer. -/
def Cd.gn (c : Cd) : Nat := if c.good then c.n else 0
/-- Rows cut out of one block, or none at all. -/
def ColsE (B : Nat) (w : World) (u : Value) (K : Nat) (L : Nat → List Int) : Prop := (K = 0 ∧ u = .slice none 0 0) ∨ Cols B w u K L
theorem ColsE.arows {B : Nat} {w : World} {u : Value} {K : Nat} {L : Nat → List Int} (h : ColsE B w u K L) : ARows w u K L := by
  rcases h with ⟨rfl, rfl⟩ | h
  · exact ⟨none, 0, rfl, fun i hi => by omega⟩
  · exact h.arows
theorem ColsE.next {B : Nat} {w w' : World} {u : Value} {K : Nat} {L : Nat → List Int} (h : ColsE B w u K L) (b : Below w.heap.size w w') : ColsE B w' u K L := h.imp id (fun h => h.next b)
theorem ColsE.form {B : Nat} {w : World} {u : Value} {K : Nat} {L : Nat → List Int} (h : ColsE B w u K L) : ∃ ad, u = .slice ad K K := by
  rcases h with ⟨rfl, rfl⟩ | ⟨gc, g, rfl, _⟩
  · exact ⟨_, rfl⟩
  · exact ⟨_, rfl⟩
set_option maxRecDepth 100000 in
set_option maxHeartbeats 4000000 in
theorem liv7 (n a cap : Nat) (c : Cd) (hn : c.n = n) (w : World) (RI : RowI w a n c.O c.D c.A c.B c.C c.X) (hX : Wds c.X c.n) (n1 : n ≤ 1048576) : Calls Tryd.prog 7 #[.slice (some ⟨a, 0, none⟩) n cap] w fun e w' => ∃ u, e = .returned (.tuple #[u, .bool c.good]) ∧ RegI w.heap.size w' u c.gn (lvL c) ∧ Below w.heap.size w w' := by
  have h9 := good9 n a cap c.O c.D c.A c.B c.C c.X w RI (by rw [← hn]; exact hX) n1
  cases hg : c.good
  · have hg0 : goodC c.O c.D c.A c.B c.C c.X n = false := by rw [← hn]; exact hg
    have hgn : c.gn = 0 := by unfold Cd.gn; rw [hg]; rfl
    rw [hg0] at h9
    rw [hgn]
    clear hg hg0 hgn RI hX
    go_enter Tryd.func7, Tryd.ntmps7
    go_wp2_with (go_at_call 19; refine h9.mono ?_; rintro e w1 ⟨rfl, B1⟩)
    go_ret2
    exact ⟨_, rfl, ⟨[], World.ownsRow_nil _ _ _ _, fun i hi => by omega⟩, B1⟩
  · have hg0 : goodC c.O c.D c.A c.B c.C c.X c.n = true := hg
    have hgn : c.gn = n := by unfold Cd.gn; rw [hg, ← hn]; rfl
    obtain ⟨K, hD, hR⟩ := lvok_of hg0 hX
    rw [hgn]
    have hgN : goodC c.O c.D c.A c.B c.C c.X n = true := by rw [← hn]; exact hg0
    rw [hgN] at h9
    exact live10 n a cap c.R c K w hn RI h9 (fun v b => (regs36 n a cap c.O c.D c.A c.B c.C c.X v (RI.next b) (by rw [← hn]; exact hX) (goodC_bds hgN).1 hgN (goodC_bds hgN).2.2).mono fun e w' ⟨h1, h2⟩ => ⟨by rw [h1, hR, hn], h2⟩)
set_option maxRecDepth 100000 in
set_option maxHeartbeats 4000000 in
theorem liv9 (n a cap : Nat) (c : Cd) (hn : c.n = n) (w : World) (G : Forms w) (RI : RowI w a n c.O c.D c.A c.B c.C c.X) (hX : Wds c.X c.n) (n1 : n ≤ 1048576) : Calls Tryd.prog 9 #[.slice (some ⟨a, 0, none⟩) n cap] w fun e w' => ∃ u, e = .returned (.tuple #[u, .bool c.good]) ∧ ColsE w.heap.size w' u c.gn (lvL c) ∧ Below w.heap.size w w' := by
  have h11 := good11 n a cap c.O c.D c.A c.B c.C c.X w G RI (by rw [← hn]; exact hX) n1
  cases hg : c.good
  · have hg0 : goodC c.O c.D c.A c.B c.C c.X n = false := by rw [← hn]; exact hg
    have hgn : c.gn = 0 := by unfold Cd.gn; rw [hg]; rfl
    rw [hg0] at h11
    rw [hgn]
    clear hg hg0 hgn RI hX G
    go_enter Tryd.func9, Tryd.ntmps9
    go_wp2_with (go_at_call 23; refine h11.mono ?_; rintro e w1 ⟨rfl, B1⟩)
    go_ret2
    exact ⟨_, rfl, Or.inl ⟨rfl, rfl⟩, B1⟩
  · have hg0 : goodC c.O c.D c.A c.B c.C c.X c.n = true := hg
    have hgn : c.gn = n := by unfold Cd.gn; rw [hg, ← hn]; rfl
    rw [hgn]
    have hgN : goodC c.O c.D c.A c.B c.C c.X n = true := by rw [← hn]; exact hg0
    rw [hgN] at h11
    have H24 : Hid (∀ v, Below w.heap.size w v → Calls Tryd.prog 24 #[.slice (some ⟨a, 0, none⟩) n cap] v fun e w' => ∃ u, e = .returned u ∧ Cols v.heap.size w' u n (lvL c) ∧ Below v.heap.size v w') := fun v b => living24 n a cap c hn hg0 hX v (G.below b) (RI.next b)
    generalize lvL c = L at H24 ⊢
    clear hg hg0 hgn RI hX G hgN
    go_enter Tryd.func9, Tryd.ntmps9
    go_wp2_with (first | (go_at_call 23; refine h11.mono ?_; rintro e w1 ⟨rfl, B1⟩) | (go_at_call 24; refine (H24.out w1 B1).mono ?_; rintro e w2 ⟨u, rfl, C2, B2⟩))
    go_ret2
    exact ⟨_, rfl, Or.inr (C2.low B1.size), B1.trans (B2.mono B1.size)⟩
/-- The greatest number of registers that live behind one instruction. -/
noncomputable def prV (c : Cd) : Nat := mxF (fun k => (lvL c k).length) c.gn
set_option maxRecDepth 100000 in
set_option maxHeartbeats 4000000 in
theorem press17 (n a cap : Nat) (c : Cd) (hn : c.n = n) (w : World) (RI : RowI w a n c.O c.D c.A c.B c.C c.X) (hX : Wds c.X c.n) (n1 : n ≤ 1048576) : Calls Tryd.prog 17 #[.slice (some ⟨a, 0, none⟩) n cap] w fun e w' => e = .returned (.int .i64 (prV c : Int)) ∧ Below w.heap.size w w' := by
  have h7 := liv7 n a cap c hn w RI hX n1
  cases hg : c.good
  · have hgn : c.gn = 0 := by unfold Cd.gn; rw [hg]; rfl
    have hp : prV c = 0 := by unfold prV; rw [hgn]; rfl
    rw [hg] at h7
    rw [hp]
    clear hg hgn hp RI hX
    go_enter Tryd.func17, Tryd.ntmps17
    go_wp2_with (go_at_call 7; refine h7.mono ?_; rintro e w1 ⟨u, rfl, _, B1⟩)
    go_ret
    exact ⟨rfl, B1⟩
  · have hg0 : goodC c.O c.D c.A c.B c.C c.X c.n = true := hg
    have hgn : c.gn = n := by unfold Cd.gn; rw [hg, ← hn]; rfl
    obtain ⟨K, hD, hR⟩ := lvok_of hg0 hX
    have hgN : goodC c.O c.D c.A c.B c.C c.X n = true := by rw [← hn]; exact hg0
    have h9 := good9 n a cap c.O c.D c.A c.B c.C c.X w RI (by rw [← hn]; exact hX) n1
    rw [hgN] at h9
    unfold prV
    rw [hgn]
    exact press32 n a cap c.R c K w hn RI h9 (fun v b => (regs36 n a cap c.O c.D c.A c.B c.C c.X v (RI.next b) (by rw [← hn]; exact hX) (goodC_bds hgN).1 hgN (goodC_bds hgN).2.2).mono fun e w' ⟨h1, h2⟩ => ⟨by rw [h1, hR, hn], h2⟩)
set_option maxRecDepth 100000 in
set_option maxHeartbeats 4000000 in
theorem press18 (n a cap : Nat) (c : Cd) (hn : c.n = n) (w : World) (G : Forms w) (RI : RowI w a n c.O c.D c.A c.B c.C c.X) (hX : Wds c.X c.n) (n1 : n ≤ 1048576) : Calls Tryd.prog 18 #[.slice (some ⟨a, 0, none⟩) n cap] w fun e w' => e = .returned (.int .i64 (prV c : Int)) ∧ Below w.heap.size w w' := by
  have h9 := liv9 n a cap c hn w G RI hX n1
  have hm : c.gn ≤ 1048576 := by unfold Cd.gn; split <;> omega
  have HP : Hid (prV c = mxF (fun k => (lvL c k).length) c.gn) := rfl
  have HF : Hid (∀ k, (fun k => (lvL c k).length) k = (lvL c k).length) := fun k => rfl
  generalize (fun k => (lvL c k).length) = f at HP HF
  generalize prV c = pv at HP ⊢
  generalize lvL c = L at h9 HF
  generalize c.gn = m at h9 HP hm
  generalize c.good = gd at h9
  clear RI hX G
  go_enter Tryd.func18, Tryd.ntmps18
  go_wp2_with (go_at_call 9; refine h9.mono ?_; rintro e w1 ⟨u, rfl, C1, B1⟩; (have C2 : Hid (ARows w1 u m L) := C1.arows); (obtain ⟨ad, rfl⟩ := C1.form))
  have HB : Hid (Below w.heap.size w w1) := B1
  have HC : Hid (∀ i, i < m → ∃ q a2 c2, ad = some ⟨q, 0, none⟩ ∧ w1.cell? ⟨q, i, none⟩ = some (.slice a2 (f i) c2)) := fun i hi => by
    rcases C1 with ⟨rfl, _⟩ | ⟨gc, g, hu, _, _, T1⟩
    · omega
    · injection hu with hu
      obtain ⟨o, c1, _⟩ := T1.col i hi
      exact ⟨gc, _, _, hu, by rw [HF.out]; exact c1⟩
  clear C1 C2 B1 h9
  go_loop [5, 15] (fun mv i => ∃ k : Nat, k ≤ m ∧ i = .int .i64 k ∧ mv = .int .i64 (mxF f k : Nat)) (fun _ i => m - (intOf i).toNat)
  case atStart => exact ⟨0, Nat.zero_le _, rfl, rfl⟩
  case round =>
    obtain ⟨k, hk, rfl, rfl⟩ := hrel
    by_cases hkn : k < m
    · have i1 : (k : Int) < (m : Int) := by omega
      have i0 : (0 : Int) ≤ (k : Int) := by omega
      obtain ⟨q, a2, c2, rfl, ck⟩ := HC.out k hkn
      have HM : Hid (mxF f (k + 1) = if mxF f k < f k then f k else mxF f k) := rfl
      generalize mxF f k = x at HM ⊢
      generalize f k = y at HM ck
      obtain ⟨z, hz⟩ : ∃ z, mxF f (k + 1) = z := ⟨_, rfl⟩
      have HM2 : Hid ((if x < y then (y : Int) else (x : Int)) = (z : Int)) := by
        show _ = _
        have := HM.out
        rw [hz] at this
        split at this
        · rw [if_pos (by assumption)]; omega
        · rw [if_neg (by assumption)]; omega
      have HZ : Hid (mxF f (k + 1) = z) := hz
      clear hz
      go_wp2
      go_round
      case rel => exact ⟨k + 1, by omega, by go_num, by rw [HZ.out, HM2.out]⟩
      case measure => simp [intOf]; omega
    · obtain rfl : m = k := by omega
      have i1 : ¬ (m : Int) < (m : Int) := by omega
      go_wp2
      go_ret
      exact ⟨by rw [HP.out]; rfl, HB.out⟩
end Go.Proofs.YtmeokhppaekhpaaDoor
