/- Rows of bytes as the laws take them: copied, compared, marked, held against their marks. -/
import Derived.Test.YthkngcdfnemhaaaAc
namespace Go.Proofs.Ythkngcdfnemhaaa
open Go.ChangeShapes Go.WideShapes Go.ChangeAt Go.RowKit
set_option linter.unusedVariables false
theorem info5 : (Try.prog.info? 5).map (fun i => (i.zero, i.size, i.bytes)) = some (some (.int .u8 0), 1, 1) := by kernel_rfl
set_option maxRecDepth 100000 in
set_option maxHeartbeats 1000000 in
theorem toY (n b off cap : Nat) (f : Nat → Int) (w : World) (hn : n ≤ 1048576) (hb : b < w.heap.size) (hc : ∀ i, i < n → w.cell? ⟨b, off + i, none⟩ = some (.int .u8 (f i))) :
    Calls Try.prog 20 #[.slice (some ⟨b, off, none⟩) n cap] w fun r w' => r = .returned (.slice (some ⟨w.heap.size, 0, none⟩) n n) ∧ Own w' w.heap.size n (fun i => .int .u8 (f i)) ∧ Below w.heap.size w w' := by
  obtain ⟨i0, hi, hz0, hz1, hz2⟩ := info_parts info5
  go_enter Try.func20, Try.ntmps20
  go_wp2_with (at_make; refine wpList_make_full _ rfl _ _ 28 rfl w.heap.size 5 i0 (.int .u8 0) 1 Try.underlying28 hi hz0 hz1 _ _ _ _ n rfl rfl (by first | rfl | omega) (by first | rfl | omega) (by rw [hz2]; omega) (by unfold maxLen; omega) (Nat.le_refl _) ?_; intro w1 hown hgrow)
  have O1 : Own w1 w.heap.size n (fun _ => .int .u8 0) := own_made hown
  have B1 : Below w.heap.size w w1 := (Below.refl _ _).grown hgrow (Nat.le_refl _) (by simp)
  clear hown hgrow hi hz0 hz1 hz2
  go_loopw [4] (fun i wr => ∃ k : Nat, k ≤ n ∧ i = .int .i64 k ∧ Own wr w.heap.size n (fun j => if j < k then .int .u8 (f j) else .int .u8 0) ∧ Below w.heap.size w wr) (fun i _ => n - (intOf i).toNat)
  case atStart => exact ⟨0, by omega, rfl, O1.mono (Nat.le_refl _) (fun j _ => by simp), B1⟩
  case round =>
    obtain ⟨k, hk, rfl, OK, BK⟩ := hrel
    by_cases hkn : k < n
    · have i1 : (k : Int) < (n : Int) := by omega
      have i0 : (0 : Int) ≤ (k : Int) := by omega
      have f0 := OK.free k
      have g0 : wr.cell? ⟨w.heap.size, k, none⟩ = some (.int .u8 0) := by have := OK.cell k hkn; simpa using this
      have c0 : wr.cell? ⟨b, off + k, none⟩ = some (.int .u8 (f k)) := (BK.cell (p := ⟨b, off + k, none⟩) hb).trans (hc k hkn)
      go_wp2
      go_roundw
      case rel => exact ⟨k + 1, by omega, by go_num, OK.set k _ hkn (fun j _ => by by_cases e1 : j = k; subst e1; simp; rw [if_neg e1]; by_cases e2 : j < k; rw [if_pos e2, if_pos (by omega)]; rw [if_neg e2, if_neg (by omega)]), BK.setCell (Nat.le_refl _) _⟩
      case measure => simp [intOf]; omega
    · have hkk : k = n := by omega
      subst hkk
      go_wp2
      go_ret
      exact ⟨rfl, OK.mono (Nat.le_refl _) (fun j hj => by simp [hj]), BK⟩
set_option maxRecDepth 100000 in
theorem toY0 (a : Option Addr) (cap : Nat) (f : Nat → Int) (w : World) :
    Calls Try.prog 20 #[.slice a 0 cap] w fun r w' => r = .returned (.slice (some ⟨w.heap.size, 0, none⟩) 0 0) ∧ Own w' w.heap.size 0 (fun i => .int .u8 (f i)) ∧ Below w.heap.size w w' := by
  obtain ⟨i0, hi, hz0, hz1, hz2⟩ := info_parts info5
  go_enter Try.func20, Try.ntmps20
  go_wp2_with (at_make; refine wpList_make_full _ rfl _ _ 28 rfl w.heap.size 5 i0 (.int .u8 0) 1 Try.underlying28 hi hz0 hz1 _ _ _ _ 0 rfl rfl (by first | rfl | omega) (by first | rfl | omega) (by rw [hz2]; omega) (by unfold maxLen; omega) (Nat.le_refl _) ?_; intro w1 hown hgrow)
  have O1 : Own w1 w.heap.size 0 (fun _ => .int .u8 0) := own_made hown
  have B1 : Below w.heap.size w w1 := (Below.refl _ _).grown hgrow (Nat.le_refl _) (by simp)
  clear hown hgrow hi hz0 hz1 hz2
  refine wp_loop_rounds 1 ?_
  rw [rounds_succ]
  go_wp2
  go_ret
  exact ⟨rfl, O1.mono (Nat.le_refl _) (fun j hj => by omega), B1⟩
set_option maxHeartbeats 1000000 in
theorem eqY (n a b ca cb : Nat) (f : Nat → Int) (w : World) (hn : n ≤ 1048576) (ha : ∀ i, i < n → w.cell? ⟨a, i, none⟩ = some (.int .u8 (f i))) (hb : ∀ i, i < n → w.cell? ⟨b, i, none⟩ = some (.int .u8 (f i))) :
    Calls Try.prog 16 #[.slice (some ⟨a, 0, none⟩) n ca, .slice (some ⟨b, 0, none⟩) n cb] w fun r w' => r = .returned (.bool true) ∧ ∃ k, w' = w.drewN k := by
  go_enter Try.func16, Try.ntmps16
  go_wp2
  go_loopw [5] (fun i wx => ∃ k q : Nat, k ≤ n ∧ i = .int .i64 k ∧ wx = w.drewN q) (fun i _ => n - (intOf i).toNat)
  case atStart => exact ⟨0, 0, by omega, rfl, rfl⟩
  case round =>
    obtain ⟨k, q, hk, rfl, rfl⟩ := hrel
    by_cases hkn : k < n
    · have c1 : w.cell? ⟨a, k, none⟩ = some (.int .u8 (f k)) := ha k hkn
      have c2 : w.cell? ⟨b, k, none⟩ = some (.int .u8 (f k)) := hb k hkn
      have i0 : (0 : Int) ≤ (k : Int) := by omega
      have i1 : (k : Int) < (n : Int) := by omega
      go_wp2
      go_quiet (fail)
      go_wp2
      go_roundw
      case rel => exact ⟨k + 1, _, by omega, by go_num, rfl⟩
      case measure => simp [intOf]; omega
    · have hkk : k = n := by omega
      subst hkk
      go_wp2
      go_ret
      exact ⟨rfl, q, rfl⟩
theorem eqY0 (a b : Option Addr) (ca cb : Nat) (w : World) :
    Calls Try.prog 16 #[.slice a 0 ca, .slice b 0 cb] w fun r w' => r = .returned (.bool true) ∧ w' = w := by
  go_enter Try.func16, Try.ntmps16
  go_wp2
  refine wp_loop_rounds 1 ?_
  rw [rounds_succ]
  go_wp2
  go_ret
  exact ⟨rfl, rfl⟩
theorem argY {w : World} {a : Option Addr} {n : Nat} {f : Nat → Int} (h : Arg w a n (fun i => .int .u8 (f i))) (cap : Nat) (hn : n ≤ 1048576) :
    Calls Try.prog 20 #[.slice a n cap] w fun r w' => r = .returned (.slice (some ⟨w.heap.size, 0, none⟩) n n) ∧ Own w' w.heap.size n (fun i => .int .u8 (f i)) ∧ Below w.heap.size w w' := by
  rcases h with rfl | ⟨b, off, rfl, hl, hc⟩
  · exact toY0 a cap f w
  · exact toY n b off cap f w hn hl hc
set_option maxHeartbeats 1000000 in
theorem markY {n a : Nat} {f : Nat → Value} {w : World} (O : Own w a n f) (ca k0 : Nat) (hn : n ≤ 1048576) (hk0 : k0 ≤ 10000000) :
    Calls Try.prog 17 #[.slice (some ⟨a, 0, none⟩) n ca, .int .i64 k0] w fun r w' => r = .returned (.int .i64 ((k0 + n : Nat) : Int)) ∧ Own w' a n (fun i => .int .u8 (((k0 + i : Nat) : Int) % 256)) ∧ Only a w w' := by
  go_enter Try.func17, Try.ntmps17
  go_wp2
  go_loopw [1, 5] (fun q i wr => ∃ k : Nat, k ≤ n ∧ i = .int .i64 k ∧ q = .int .i64 ((k0 + k : Nat) : Int) ∧ Own wr a n (fun j => if j < k then .int .u8 (((k0 + j : Nat) : Int) % 256) else f j) ∧ Only a w wr) (fun _ i _ => n - (intOf i).toNat)
  case atStart => exact ⟨0, by omega, rfl, rfl, O.mono (Nat.le_refl _) (fun j _ => by simp), Only.refl _ _⟩
  case round =>
    obtain ⟨k, hk, rfl, rfl, OK, BK⟩ := hrel
    by_cases hkn : k < n
    · have i1 : (k : Int) < (n : Int) := by omega
      have i0 : (0 : Int) ≤ (k : Int) := by omega
      obtain ⟨s, hs⟩ : ∃ s : Nat, k0 + k = s := ⟨_, rfl⟩
      rw [hs]
      have s1 : (s : Int) < 4294967296 := by omega
      have s0 : (0 : Int) ≤ (s : Int) := by omega
      have HS : Hid (k0 + k = s) := hs
      clear hs
      have f0 := OK.free k
      have g0 : wr.cell? ⟨a, k, none⟩ = some (f k) := by have := OK.cell k hkn; simpa using this
      go_wp2
      go_roundw
      case rel => exact ⟨k + 1, by omega, by go_num, by have := HS.out; rw [show k0 + (k + 1) = s + 1 by omega]; go_num, OK.set k _ hkn (fun j _ => by have hs := HS.out; by_cases e1 : j = k; (subst e1; rw [hs]; simp); rw [if_neg e1]; by_cases e2 : j < k; rw [if_pos e2, if_pos (by omega)]; rw [if_neg e2, if_neg (by omega)]), BK.setCell _ _⟩
      case measure => simp [intOf]; omega
    · have hkk : k = n := by omega
      subst hkk
      go_wp2
      go_ret
      exact ⟨rfl, OK.mono (Nat.le_refl _) (fun j hj => by simp [hj]), BK⟩
theorem markY0 (a : Option Addr) (ca : Nat) (k : Int) (w : World) :
    Calls Try.prog 17 #[.slice a 0 ca, .int .i64 k] w fun r w' => r = .returned (.int .i64 k) ∧ w' = w := by
  go_enter Try.func17, Try.ntmps17
  go_wp2
  refine wp_loop_rounds 1 ?_
  rw [rounds_succ]
  go_wp2
  go_ret
  exact ⟨rfl, rfl⟩
set_option maxHeartbeats 1000000 in
theorem heldY {n a : Nat} {w : World} (ca k0 : Nat) (O : Own w a n (fun i => .int .u8 (((k0 + i : Nat) : Int) % 256))) (hn : n ≤ 1048576) (hk0 : k0 ≤ 10000000) :
    Calls Try.prog 18 #[.slice (some ⟨a, 0, none⟩) n ca, .int .i64 k0] w fun r w' => r = .returned (.int .i64 ((k0 + n : Nat) : Int)) ∧ w' = w := by
  have HC : Hid (∀ i, i < n → w.cell? ⟨a, i, none⟩ = some (.int .u8 (((k0 + i : Nat) : Int) % 256))) := O.cell
  clear O
  go_enter Try.func18, Try.ntmps18
  go_wp2
  go_loopw [1, 5] (fun q i wr => ∃ k : Nat, k ≤ n ∧ i = .int .i64 k ∧ q = .int .i64 ((k0 + k : Nat) : Int) ∧ wr = w) (fun _ i _ => n - (intOf i).toNat)
  case atStart => exact ⟨0, by omega, rfl, rfl, rfl⟩
  case round =>
    obtain ⟨k, hk, rfl, rfl, hwr⟩ := hrel
    subst wr
    by_cases hkn : k < n
    · have i1 : (k : Int) < (n : Int) := by omega
      have i0 : (0 : Int) ≤ (k : Int) := by omega
      have g0 := HC.out k hkn
      obtain ⟨s, hs⟩ : ∃ s : Nat, k0 + k = s := ⟨_, rfl⟩
      rw [hs] at g0 ⊢
      have s1 : (s : Int) < 4294967296 := by omega
      have s0 : (0 : Int) ≤ (s : Int) := by omega
      have HS : Hid (k0 + k = s) := hs
      clear hs
      go_wp2
      go_roundw
      case rel => exact ⟨k + 1, by omega, by go_num, by have := HS.out; rw [show k0 + (k + 1) = s + 1 by omega]; go_num, by first | rfl | trivial⟩
      case measure => simp [intOf]; omega
    · have hkk : k = n := by omega
      subst hkk
      go_wp2
      go_ret
      exact ⟨rfl, rfl⟩
theorem heldY0 (a : Option Addr) (ca : Nat) (k : Int) (w : World) :
    Calls Try.prog 18 #[.slice a 0 ca, .int .i64 k] w fun r w' => r = .returned (.int .i64 k) ∧ w' = w := by
  go_enter Try.func18, Try.ntmps18
  go_wp2
  refine wp_loop_rounds 1 ?_
  rw [rounds_succ]
  go_wp2
  go_ret
  exact ⟨rfl, rfl⟩
/-- Two rows alike, in any world: the comparison says so, and leaves all as it was. -/
theorem sameY {n a b : Nat} {f : Nat → Int} {w : World} (A : Own w a n (fun i => .int .u8 (f i))) (B : Own w b n (fun i => .int .u8 (f i))) (ca cb : Nat) (hn : n ≤ 1048576) :
    Calls Try.prog 16 #[.slice (some ⟨a, 0, none⟩) n ca, .slice (some ⟨b, 0, none⟩) n cb] w fun r w' => r = .returned (.bool true) ∧ Below w.heap.size w w' :=
  (eqY n a b ca cb f w hn A.cell B.cell).mono fun e w' ⟨h1, q, h2⟩ => ⟨h1, by rw [h2]; exact below_drewN (Below.refl _ _) q⟩
/-- A row of bytes, or nil. -/
def YRow (w : World) (u : Value) (L : Nat) (F : Nat → Int) : Prop := (L = 0 ∧ u = .slice none 0 0) ∨ ∃ g c, u = .slice (some ⟨g, 0, none⟩) L c ∧ Own w g L (fun j => .int .u8 (F j))
theorem YRow.next {w w' : World} {u : Value} {L : Nat} {F : Nat → Int} (h : YRow w u L F) (B : Below w.heap.size w w') : YRow w' u L F := by
  rcases h with h | ⟨g, c, rfl, O⟩
  · exact Or.inl h
  · exact Or.inr ⟨g, c, rfl, O.next B⟩
theorem YRow.but {w w' : World} {u : Value} {L p : Nat} {F : Nat → Int} (h : YRow w u L F) (B : Only p w w') (hne : u.ownBlock ≠ some p) : YRow w' u L F := by
  rcases h with h | ⟨g, c, rfl, O⟩
  · exact Or.inl h
  · exact Or.inr ⟨g, c, rfl, O.but B (fun e => hne (by rw [e]; rfl))⟩
theorem YRow.is {w : World} {u : Value} {L : Nat} {F : Nat → Int} (h : YRow w u L F) : ∃ a l c, u = .slice a l c := by
  rcases h with ⟨_, rfl⟩ | ⟨g, c, rfl, O⟩
  · exact ⟨_, _, _, rfl⟩
  · exact ⟨_, _, _, rfl⟩
theorem YRow.lt {w : World} {u : Value} {L : Nat} {F : Nat → Int} (h : YRow w u L F) : ∀ g, u.ownBlock = some g → g < w.heap.size := by
  intro g hg
  rcases h with ⟨_, rfl⟩ | ⟨b, c, rfl, O⟩
  · simp [Value.ownBlock] at hg
  · simp [Value.ownBlock] at hg; subst hg; exact O.hi
theorem eqYV {w : World} {a b : Value} {L : Nat} {F : Nat → Int} (X : YRow w a L F) (Y : YRow w b L F) (hL : L ≤ 1048576) : Calls Try.prog 16 #[a, b] w fun r w' => r = .returned (.bool true) ∧ Below w.heap.size w w' := by
  rcases X with ⟨rfl, rfl⟩ | ⟨g, c, rfl, OX⟩
  · rcases Y with ⟨_, rfl⟩ | ⟨g', c', rfl, _⟩
    · exact (eqY0 none none 0 0 w).mono fun e w' ⟨h1, h2⟩ => ⟨h1, by rw [h2]; exact Below.refl _ _⟩
    · exact (eqY0 none _ 0 _ w).mono fun e w' ⟨h1, h2⟩ => ⟨h1, by rw [h2]; exact Below.refl _ _⟩
  · rcases Y with ⟨h0, rfl⟩ | ⟨g', c', rfl, OY⟩
    · subst h0
      exact (eqY0 _ none _ 0 w).mono fun e w' ⟨h1, h2⟩ => ⟨h1, by rw [h2]; exact Below.refl _ _⟩
    · exact sameY OX OY c c' hL
theorem markYV {w : World} {u : Value} {L : Nat} {F : Nat → Int} (X : YRow w u L F) (hL : L ≤ 1048576) (q : Nat) (hq : q ≤ w.heap.size) (hu : ∀ g, u.ownBlock = some g → q ≤ g) : Calls Try.prog 17 #[u, .int .i64 1] w fun r w' => r = .returned (.int .i64 ((1 + L : Nat) : Int)) ∧ YRow w' u L (fun i => ((1 + i : Nat) : Int) % 256) ∧ Below q w w' := by
  rcases X with ⟨rfl, rfl⟩ | ⟨g, c, rfl, X⟩
  · exact (markY0 none 0 1 w).mono fun e w' ⟨h1, h2⟩ => ⟨h1, Or.inl ⟨rfl, rfl⟩, by rw [h2]; exact Below.refl _ _⟩
  · exact (markY X c 1 hL (by omega)).mono fun e w' ⟨h1, h2, h3⟩ => ⟨h1, Or.inr ⟨g, c, rfl, h2⟩, h3.below (hu g rfl) hq⟩
theorem heldYV {w : World} {u : Value} {L : Nat} (X : YRow w u L (fun i => ((1 + i : Nat) : Int) % 256)) (hL : L ≤ 1048576) : Calls Try.prog 18 #[u, .int .i64 1] w fun r w' => r = .returned (.int .i64 ((1 + L : Nat) : Int)) ∧ w' = w := by
  rcases X with ⟨rfl, rfl⟩ | ⟨g, c, rfl, X⟩
  · exact (heldY0 none 0 1 w).mono fun e w' ⟨h1, h2⟩ => ⟨h1, h2⟩
  · exact heldY c 1 X hL (by omega)
theorem YRow.keep {w w' : World} {u : Value} {L B : Nat} {F : Nat → Int} (h : YRow w u L F) (b : Below B w w') (hB : ∀ g, u.ownBlock = some g → g < B) : YRow w' u L F := by
  rcases h with h | ⟨g, c, rfl, O⟩
  · exact Or.inl h
  · have hg : g < B := hB g rfl
    have hb := b.block g hg
    exact Or.inr ⟨g, c, rfl, ⟨fun i hi => (World.cell?_of_block (w := w) (a := ⟨g, i, none⟩) hb).trans (O.cell i hi), fun i => (World.frozen?_of_block (w := w) (a := ⟨g, i, none⟩) hb).trans (O.free i), by have := O.hi; have := b.size; omega⟩⟩
theorem BOwn.yrow {B : Nat} {w : World} {v : Value} {L : List Int} (h : BOwn B w v L) : YRow w v L.length (fun i => L.getD i 0) := by
  rcases h with ⟨rfl, rfl⟩ | ⟨g, rfl, _, O⟩
  · exact Or.inl ⟨rfl, rfl⟩
  · exact Or.inr ⟨g, _, rfl, O⟩
theorem BOwn.lo {B : Nat} {w : World} {v : Value} {L : List Int} (h : BOwn B w v L) : ∀ g, v.ownBlock = some g → B ≤ g := by
  rcases h with ⟨rfl, rfl⟩ | ⟨g, rfl, hb, O⟩
  · intro g hg; simp [Value.ownBlock] at hg
  · intro q hq; simp [Value.ownBlock] at hq; subst hq; exact hb
theorem BOwn.hi {B : Nat} {w : World} {v : Value} {L : List Int} (h : BOwn B w v L) : ∀ g, v.ownBlock = some g → g < w.heap.size := h.yrow.lt
theorem pkC_len (f r g b a : Int) : (pkC f r g b a).length ≤ 4 := by
  unfold pkC pk
  repeat' split
  all_goals simp
end Go.Proofs.Ythkngcdfnemhaaa
