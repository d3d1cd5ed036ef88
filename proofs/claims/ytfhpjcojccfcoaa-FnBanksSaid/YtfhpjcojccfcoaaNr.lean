/- Rows of whole numbers as the laws hold them: compared, marked, held against their marks. -/
import Derived.Test.YtfhpjcojccfcoaaRa
import Derived.Deep.AppendLies
namespace Go.Proofs.Ytfhpjcojccfcoaa
open Go.ChangeShapes Go.WideShapes Go.ChangeAt Go.RowKit
set_option linter.unusedVariables false
set_option maxHeartbeats 1000000 in
theorem eqN (n a b ca cb : Nat) (f : Nat → Int) (w : World) (hn : n ≤ 1048576) (ha : ∀ i, i < n → w.cell? ⟨a, i, none⟩ = some (.int .i64 (f i))) (hb : ∀ i, i < n → w.cell? ⟨b, i, none⟩ = some (.int .i64 (f i))) :
    Calls Try.prog 20 #[.slice (some ⟨a, 0, none⟩) n ca, .slice (some ⟨b, 0, none⟩) n cb] w fun r w' => r = .returned (.bool true) ∧ ∃ k, w' = w.drewN k := by
  go_enter Try.func20, Try.ntmps20
  go_wp2
  go_loopw [5] (fun i wx => ∃ k q : Nat, k ≤ n ∧ i = .int .i64 k ∧ wx = w.drewN q) (fun i _ => n - (intOf i).toNat)
  case atStart => exact ⟨0, 0, by omega, rfl, rfl⟩
  case round =>
    obtain ⟨k, q, hk, rfl, rfl⟩ := hrel
    by_cases hkn : k < n
    · have c1 : w.cell? ⟨a, k, none⟩ = some (.int .i64 (f k)) := ha k hkn
      have c2 : w.cell? ⟨b, k, none⟩ = some (.int .i64 (f k)) := hb k hkn
      have i0 : (0 : Int) ≤ (k : Int) := by omega
      have i1 : (k : Int) < (n : Int) := by omega
      go_wp2
      go_quiet (fail)
      go_wp2
      go_roundw
      case rel => exact ⟨k + 1, _, by omega, by go_num, rfl⟩
      case measure => simp [intOf]; omega
    · have hkk : k = n := by omega
      subst hkk
      go_wp2
      go_ret
      exact ⟨rfl, q, rfl⟩
theorem eqN0 (a b : Option Addr) (ca cb : Nat) (w : World) :
    Calls Try.prog 20 #[.slice a 0 ca, .slice b 0 cb] w fun r w' => r = .returned (.bool true) ∧ w' = w := by
  go_enter Try.func20, Try.ntmps20
  go_wp2
  refine wp_loop_rounds 1 ?_
  rw [rounds_succ]
  go_wp2
  go_ret
  exact ⟨rfl, rfl⟩
set_option maxHeartbeats 1000000 in
theorem markN {n a : Nat} {f : Nat → Value} {w : World} (O : Own w a n f) (ca k0 : Nat) (hn : n ≤ 1048576) (hk0 : k0 ≤ 10000000) :
    Calls Try.prog 21 #[.slice (some ⟨a, 0, none⟩) n ca, .int .i64 k0] w fun r w' => r = .returned (.int .i64 ((k0 + n : Nat) : Int)) ∧ Own w' a n (fun i => .int .i64 (((k0 + i : Nat) : Int))) ∧ Only a w w' := by
  go_enter Try.func21, Try.ntmps21
  go_wp2
  go_loopw [1, 5] (fun q i wr => ∃ k : Nat, k ≤ n ∧ i = .int .i64 k ∧ q = .int .i64 ((k0 + k : Nat) : Int) ∧ Own wr a n (fun j => if j < k then .int .i64 (((k0 + j : Nat) : Int)) else f j) ∧ Only a w wr) (fun _ i _ => n - (intOf i).toNat)
  case atStart => exact ⟨0, by omega, rfl, rfl, O.mono (Nat.le_refl _) (fun j _ => by simp), Only.refl _ _⟩
  case round =>
    obtain ⟨k, hk, rfl, rfl, OK, BK⟩ := hrel
    by_cases hkn : k < n
    · have i1 : (k : Int) < (n : Int) := by omega
      have i0 : (0 : Int) ≤ (k : Int) := by omega
      obtain ⟨s, hs⟩ : ∃ s : Nat, k0 + k = s := ⟨_, rfl⟩
      rw [hs]
      have s1 : (s : Int) < 4294967296 := by omega
      have s0 : (0 : Int) ≤ (s : Int) := by omega
      have HS : Hid (k0 + k = s) := hs
      clear hs
      have f0 := OK.free k
      have g0 : wr.cell? ⟨a, k, none⟩ = some (f k) := by have := OK.cell k hkn; simpa using this
      go_wp2
      go_roundw
      case rel => exact ⟨k + 1, by omega, by go_num, by have := HS.out; rw [show k0 + (k + 1) = s + 1 by omega]; go_num, OK.set k _ hkn (fun j _ => by have hs := HS.out; by_cases e1 : j = k; (subst e1; rw [hs]; simp); rw [if_neg e1]; by_cases e2 : j < k; rw [if_pos e2, if_pos (by omega)]; rw [if_neg e2, if_neg (by omega)]), BK.setCell _ _⟩
      case measure => simp [intOf]; omega
    · have hkk : k = n := by omega
      subst hkk
      go_wp2
      go_ret
      exact ⟨rfl, OK.mono (Nat.le_refl _) (fun j hj => by simp [hj]), BK⟩
theorem markN0 (a : Option Addr) (ca : Nat) (k : Int) (w : World) :
    Calls Try.prog 21 #[.slice a 0 ca, .int .i64 k] w fun r w' => r = .returned (.int .i64 k) ∧ w' = w := by
  go_enter Try.func21, Try.ntmps21
  go_wp2
  refine wp_loop_rounds 1 ?_
  rw [rounds_succ]
  go_wp2
  go_ret
  exact ⟨rfl, rfl⟩
set_option maxHeartbeats 1000000 in
theorem heldN {n a : Nat} {w : World} (ca k0 : Nat) (O : Own w a n (fun i => .int .i64 (((k0 + i : Nat) : Int)))) (hn : n ≤ 1048576) (hk0 : k0 ≤ 10000000) :
    Calls Try.prog 22 #[.slice (some ⟨a, 0, none⟩) n ca, .int .i64 k0] w fun r w' => r = .returned (.int .i64 ((k0 + n : Nat) : Int)) ∧ w' = w := by
  have HC : Hid (∀ i, i < n → w.cell? ⟨a, i, none⟩ = some (.int .i64 (((k0 + i : Nat) : Int)))) := O.cell
  clear O
  go_enter Try.func22, Try.ntmps22
  go_wp2
  go_loopw [1, 5] (fun q i wr => ∃ k : Nat, k ≤ n ∧ i = .int .i64 k ∧ q = .int .i64 ((k0 + k : Nat) : Int) ∧ wr = w) (fun _ i _ => n - (intOf i).toNat)
  case atStart => exact ⟨0, by omega, rfl, rfl, rfl⟩
  case round =>
    obtain ⟨k, hk, rfl, rfl, hwr⟩ := hrel
    subst wr
    by_cases hkn : k < n
    · have i1 : (k : Int) < (n : Int) := by omega
      have i0 : (0 : Int) ≤ (k : Int) := by omega
      have g0 := HC.out k hkn
      obtain ⟨s, hs⟩ : ∃ s : Nat, k0 + k = s := ⟨_, rfl⟩
      rw [hs] at g0 ⊢
      have s1 : (s : Int) < 4294967296 := by omega
      have s0 : (0 : Int) ≤ (s : Int) := by omega
      have HS : Hid (k0 + k = s) := hs
      clear hs
      go_wp2
      go_roundw
      case rel => exact ⟨k + 1, by omega, by go_num, by have := HS.out; rw [show k0 + (k + 1) = s + 1 by omega]; go_num, by first | rfl | trivial⟩
      case measure => simp [intOf]; omega
    · have hkk : k = n := by omega
      subst hkk
      go_wp2
      go_ret
      exact ⟨rfl, rfl⟩
theorem heldN0 (a : Option Addr) (ca : Nat) (k : Int) (w : World) :
    Calls Try.prog 22 #[.slice a 0 ca, .int .i64 k] w fun r w' => r = .returned (.int .i64 k) ∧ w' = w := by
  go_enter Try.func22, Try.ntmps22
  go_wp2
  refine wp_loop_rounds 1 ?_
  rw [rounds_succ]
  go_wp2
  go_ret
  exact ⟨rfl, rfl⟩
/-- A row of whole numbers in a block from lo to hi, or none. -/
def NRow (w : World) (lo hi : Nat) (v : Value) (f : Nat → Int) (n : Nat) : Prop := (n = 0 ∧ ∃ a c, v = .slice a 0 c) ∨ ∃ g c, v = .slice (some ⟨g, 0, none⟩) n c ∧ lo ≤ g ∧ g < hi ∧ Own w g n (fun i => .int .i64 (f i))
theorem NRow.next {w w' : World} {lo hi : Nat} {v : Value} {f : Nat → Int} {n : Nat} (h : NRow w lo hi v f n) (b : Below w.heap.size w w') : NRow w' lo hi v f n := by
  rcases h with h | ⟨g, c, hv, h1, h2, O⟩
  · exact Or.inl h
  · exact Or.inr ⟨g, c, hv, h1, h2, O.next b⟩
theorem NRow.but {w w' : World} {lo hi p : Nat} {v : Value} {f : Nat → Int} {n : Nat} (h : NRow w lo hi v f n) (b : Only p w w') (hp : hi ≤ p) : NRow w' lo hi v f n := by
  rcases h with h | ⟨g, c, hv, h1, h2, O⟩
  · exact Or.inl h
  · exact Or.inr ⟨g, c, hv, h1, h2, O.but b (by omega)⟩
theorem nrow_of {B : Nat} {w : World} {v : Value} {L : List Int} (h : Ri B w v L) : NRow w B w.heap.size v (fun i => L.getD i 0) L.length := by
  by_cases e : L.length = 0
  · rcases h.1.2 with ⟨rfl, _⟩ | ⟨g, cap, cur, rfl, _⟩
    · exact Or.inl ⟨e, _, _, rfl⟩
    · exact Or.inl ⟨e, _, _, by rw [e]⟩
  · obtain ⟨g, cap, rfl, _⟩ := World.ownsRow.form h.1 (by omega)
    have hl := h.lt g rfl
    exact Or.inr ⟨g, cap, rfl, hl.1, hl.2, own_owned h.1 _ (fun i hi => by unfold il; rw [List.getElem?_map]; show _ = some (Value.int .i64 (L.getD i 0)); rw [List.getD_eq_getElem?_getD, List.getElem?_eq_getElem hi]; rfl)⟩
theorem nrow_own {B : Nat} {w : World} {v : Value} {L : List Int} (h : IOwn B w v L) : NRow w B w.heap.size v (fun i => L.getD i 0) L.length := by
  rcases h with ⟨rfl, rfl⟩ | ⟨g, c, rfl, _, hB, O⟩
  · exact Or.inl ⟨rfl, _, _, rfl⟩
  · exact Or.inr ⟨g, c, rfl, hB, O.hi, O⟩
theorem eqNR {w : World} {lo hi lo' hi' : Nat} {u v : Value} {f : Nat → Int} {n : Nat} (U : NRow w lo hi u f n) (V : NRow w lo' hi' v f n) (hn : n ≤ 1048576) : Calls Try.prog 20 #[u, v] w fun r w' => r = .returned (.bool true) ∧ Below w.heap.size w w' := by
  by_cases e : n = 0
  · subst e
    obtain ⟨a, c, rfl⟩ : ∃ a c, u = .slice a 0 c := by
      rcases U with ⟨_, h⟩ | ⟨g, c, h, _⟩
      · exact h
      · exact ⟨_, _, h⟩
    obtain ⟨a', c', rfl⟩ : ∃ a c, v = .slice a 0 c := by
      rcases V with ⟨_, h⟩ | ⟨g, c, h, _⟩
      · exact h
      · exact ⟨_, _, h⟩
    refine (eqN0 a a' c c' w).mono ?_
    rintro r w' ⟨rfl, rfl⟩
    exact ⟨rfl, Below.refl _ _⟩
  · obtain ⟨g, c, rfl, _, _, O⟩ := U.resolve_left (fun h => e h.1)
    obtain ⟨g', c', rfl, _, _, O'⟩ := V.resolve_left (fun h => e h.1)
    refine (eqN n g g' c c' f w hn O.cell O'.cell).mono ?_
    rintro r w' ⟨rfl, q, rfl⟩
    exact ⟨rfl, below_drewN (Below.refl _ _) q⟩
theorem markNR {w : World} {lo hi : Nat} {u : Value} {f : Nat → Int} {n : Nat} (U : NRow w lo hi u f n) (hn : n ≤ 1048576) : Calls Try.prog 21 #[u, .int .i64 1] w fun r w' => r = .returned (.int .i64 ((1 + n : Nat) : Int)) ∧ NRow w' lo hi u (fun i => ((1 + i : Nat) : Int)) n ∧ ∃ p, lo ≤ p ∧ Only p w w' := by
  by_cases e : n = 0
  · subst e
    obtain ⟨a, c, rfl⟩ : ∃ a c, u = .slice a 0 c := by
      rcases U with ⟨_, h⟩ | ⟨g, c, h, _⟩
      · exact h
      · exact ⟨_, _, h⟩
    refine (markN0 a c 1 w).mono ?_
    rintro r w' ⟨rfl, rfl⟩
    exact ⟨rfl, Or.inl ⟨rfl, _, _, rfl⟩, lo, Nat.le_refl _, Only.refl _ _⟩
  · obtain ⟨g, c, rfl, h1, h2, O⟩ := U.resolve_left (fun h => e h.1)
    refine (markN O c 1 hn (by omega)).mono ?_
    rintro r w' ⟨rfl, O', k⟩
    exact ⟨rfl, Or.inr ⟨g, c, rfl, h1, h2, O'⟩, g, h1, k⟩
theorem heldNR {w : World} {lo hi : Nat} {u : Value} {n : Nat} (U : NRow w lo hi u (fun i => ((1 + i : Nat) : Int)) n) (hn : n ≤ 1048576) : Calls Try.prog 22 #[u, .int .i64 1] w fun r w' => r = .returned (.int .i64 ((1 + n : Nat) : Int)) ∧ w' = w := by
  by_cases e : n = 0
  · subst e
    obtain ⟨a, c, rfl⟩ : ∃ a c, u = .slice a 0 c := by
      rcases U with ⟨_, h⟩ | ⟨g, c, h, _⟩
      · exact h
      · exact ⟨_, _, h⟩
    exact heldN0 a c 1 w
  · obtain ⟨g, c, rfl, h1, h2, O⟩ := U.resolve_left (fun h => e h.1)
    exact heldN c 1 O hn (by omega)
end Go.Proofs.Ytfhpjcojccfcoaa
