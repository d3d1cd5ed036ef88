/- Rows of whole numbers as the laws hold them (eqIntS, markIntS, heldIntS); conditions: at most 2^20 long. -/
import Derived.Test.YtcgapochcahknaaDoorRdp
import Derived.Deep.AppendLies
namespace Go.Proofs.YtcgapochcahknaaDoor
open Go.ChangeShapes Go.WideShapes Go.ChangeAt Go.RowKit
set_option linter.unusedVariables false
set_option maxHeartbeats 1000000 in
theorem eqN (n a b ca cb : Nat) (f : Nat → Int) (w : World) (hn : n ≤ 1048576) (ha : ∀ i, i < n → w.cell? ⟨a, i, none⟩ = some (.int .i64 (f i))) (hb : ∀ i, i < n → w.cell? ⟨b, i, none⟩ = some (.int .i64 (f i))) :
    Calls Tryd.prog 29 #[.slice (some ⟨a, 0, none⟩) n ca, .slice (some ⟨b, 0, none⟩) n cb] w fun r w' => r = .returned (.bool true) ∧ ∃ k, w' = w.drewN k := by
  go_enter Tryd.func29, Tryd.ntmps29
  go_wp2
  go_loopw [5] (fun i wx => ∃ k q : Nat, k ≤ n ∧ i = .int .i64 k ∧ wx = w.drewN q) (fun i _ => n - (intOf i).toNat)
  case atStart => exact ⟨0, 0, by omega, rfl, rfl⟩
  case round =>
    obtain ⟨k, q, hk, rfl, rfl⟩ := hrel
    by_cases hkn : k < n
    · have c1 : w.cell? ⟨a, k, none⟩ = some (.int .i64 (f k)) := ha k hkn
      have c2 : w.cell? ⟨b, k, none⟩ = some (.int .i64 (f k)) := hb k hkn
      have i0 : (0 : Int) ≤ (k : Int) := by omega
      have i1 : (k : Int) < (n : Int) := by omega
      go_wp2
      go_quiet (fail)
      go_wp2
      go_roundw
      case rel => exact ⟨k + 1, _, by omega, by go_num, rfl⟩
      case measure => simp [intOf]; omega
    · have hkk : k = n := by omega
      subst hkk
      go_wp2
      go_ret
      exact ⟨rfl, q, rfl⟩
theorem eqN0 (a b : Option Addr) (ca cb : Nat) (w : World) :
    Calls Tryd.prog 29 #[.slice a 0 ca, .slice b 0 cb] w fun r w' => r = .returned (.bool true) ∧ w' = w := by
  go_enter Tryd.func29, Tryd.ntmps29
  go_wp2
  refine wp_loop_rounds 1 ?_
  rw [rounds_succ]
  go_wp2
  go_ret
  exact ⟨rfl, rfl⟩
set_option maxHeartbeats 1000000 in
theorem markN {n a : Nat} {f : Nat → Value} {w : World} (O : Own w a n f) (ca k0 : Nat) (hn : n ≤ 1048576) (hk0 : k0 ≤ 10000000) :
    Calls Tryd.prog 30 #[.slice (some ⟨a, 0, none⟩) n ca, .int .i64 k0] w fun r w' => r = .returned (.int .i64 ((k0 + n : Nat) : Int)) ∧ Own w' a n (fun i => .int .i64 (((k0 + i : Nat) : Int))) ∧ Only a w w' := by
  go_enter Tryd.func30, Tryd.ntmps30
  go_wp2
  go_loopw [1, 5] (fun q i wr => ∃ k : Nat, k ≤ n ∧ i = .int .i64 k ∧ q = .int .i64 ((k0 + k : Nat) : Int) ∧ Own wr a n (fun j => if j < k then .int .i64 (((k0 + j : Nat) : Int)) else f j) ∧ Only a w wr) (fun _ i _ => n - (intOf i).toNat)
  case atStart => exact ⟨0, by omega, rfl, rfl, O.mono (Nat.le_refl _) (fun j _ => by simp), Only.refl _ _⟩
  case round =>
    obtain ⟨k, hk, rfl, rfl, OK, BK⟩ := hrel
    by_cases hkn : k < n
    · have i1 : (k : Int) < (n : Int) := by omega
      have i0 : (0 : Int) ≤ (k : Int) := by omega
      obtain ⟨s, hs⟩ : ∃ s : Nat, k0 + k = s := ⟨_, rfl⟩
      rw [hs]
      have s1 : (s : Int) < 4294967296 := by omega
      have s0 : (0 : Int) ≤ (s : Int) := by omega
      have HS : Hid (k0 + k = s) := hs
      clear hs
      have f0 := OK.free k
      have g0 : wr.cell? ⟨a, k, none⟩ = some (f k) := by have := OK.cell k hkn; simpa using this
      go_wp2
      go_roundw
      case rel => exact ⟨k + 1, by omega, by go_num, by have := HS.out; rw [show k0 + (k + 1) = s + 1 by omega]; go_num, OK.set k _ hkn (fun j _ => by have hs := HS.out; by_cases e1 : j = k; (subst e1; rw [hs]; simp); rw [if_neg e1]; by_cases e2 : j < k; rw [if_pos e2, if_pos (by omega)]; rw [if_neg e2, if_neg (by omega)]), BK.setCell _ _⟩
      case measure => simp [intOf]; omega
    · have hkk : k = n := by omega
      subst hkk
      go_wp2
      go_ret
      exact ⟨rfl, OK.mono (Nat.le_refl _) (fun j hj => by simp [hj]), BK⟩
theorem markN0 (a : Option Addr) (ca : Nat) (k : Int) (w : World) :
    Calls Tryd.prog 30 #[.slice a 0 ca, .int .i64 k] w fun r w' => r = .returned (.int .i64 k) ∧ w' = w := by
  go_enter Tryd.func30, Tryd.ntmps30
  go_wp2
  refine wp_loop_rounds 1 ?_
  rw [rounds_succ]
  go_wp2
  go_ret
  exact ⟨rfl, rfl⟩
set_option maxHeartbeats 1000000 in
theorem heldN {n a : Nat} {w : World} (ca k0 : Nat) (O : Own w a n (fun i => .int .i64 (((k0 + i : Nat) : Int)))) (hn : n ≤ 1048576) (hk0 : k0 ≤ 10000000) :
    Calls Tryd.prog 47 #[.slice (some ⟨a, 0, none⟩) n ca, .int .i64 k0] w fun r w' => r = .returned (.int .i64 ((k0 + n : Nat) : Int)) ∧ w' = w := by
  have HC : Hid (∀ i, i < n → w.cell? ⟨a, i, none⟩ = some (.int .i64 (((k0 + i : Nat) : Int)))) := O.cell
  clear O
  go_enter Tryd.func47, Tryd.ntmps47
  go_wp2
  go_loopw [1, 5] (fun q i wr => ∃ k : Nat, k ≤ n ∧ i = .int .i64 k ∧ q = .int .i64 ((k0 + k : Nat) : Int) ∧ wr = w) (fun _ i _ => n - (intOf i).toNat)
  case atStart => exact ⟨0, by omega, rfl, rfl, rfl⟩
  case round =>
    obtain ⟨k, hk, rfl, rfl, hwr⟩ := hrel
    subst wr
    by_cases hkn : k < n
    · have i1 : (k : Int) < (n : Int) := by omega
      have i0 : (0 : Int) ≤ (k : Int) := by omega
      have g0 := HC.out k hkn
      obtain ⟨s, hs⟩ : ∃ s : Nat, k0 + k = s := ⟨_, rfl⟩
      rw [hs] at g0 ⊢
      have s1 : (s : Int) < 4294967296 := by omega
      have s0 : (0 : Int) ≤ (s : Int) := by omega
      have HS : Hid (k0 + k = s) := hs
      clear hs
      go_wp2
      go_roundw
      case rel => exact ⟨k + 1, by omega, by go_num, by have := HS.out; rw [show k0 + (k + 1) = s + 1 by omega]; go_num, by first | rfl | trivial⟩
      case measure => simp [intOf]; omega
    · have hkk : k = n := by omega
      subst hkk
      go_wp2
      go_ret
      exact ⟨rfl, rfl⟩
theorem heldN0 (a : Option Addr) (ca : Nat) (k : Int) (w : World) :
    Calls Tryd.prog 47 #[.slice a 0 ca, .int .i64 k] w fun r w' => r = .returned (.int .i64 k) ∧ w' = w := by
  go_enter Tryd.func47, Tryd.ntmps47
  go_wp2
  refine wp_loop_rounds 1 ?_
  rw [rounds_succ]
  go_wp2
  go_ret
  exact ⟨rfl, rfl⟩
/-- A row of whole numbers in a block from lo to hi, or none. -/
def NRow (w : World) (lo hi : Nat) (v : Value) (f : Nat → Int) (n : Nat) : Prop := (n = 0 ∧ ∃ a c, v = .slice a 0 c) ∨ ∃ g c, v = .slice (some ⟨g, 0, none⟩) n c ∧ lo ≤ g ∧ g < hi ∧ Own w g n (fun i => .int .i64 (f i))
theorem NRow.next {w w' : World} {lo hi : Nat} {v : Value} {f : Nat → Int} {n : Nat} (h : NRow w lo hi v f n) (b : Below w.heap.size w w') : NRow w' lo hi v f n := by
  rcases h with h | ⟨g, c, hv, h1, h2, O⟩
  · exact Or.inl h
  · exact Or.inr ⟨g, c, hv, h1, h2, O.next b⟩
theorem NRow.but {w w' : World} {lo hi p : Nat} {v : Value} {f : Nat → Int} {n : Nat} (h : NRow w lo hi v f n) (b : Only p w w') (hp : hi ≤ p) : NRow w' lo hi v f n := by
  rcases h with h | ⟨g, c, hv, h1, h2, O⟩
  · exact Or.inl h
  · exact Or.inr ⟨g, c, hv, h1, h2, O.but b (by omega)⟩
theorem nrow_of {B : Nat} {w : World} {v : Value} {L : List Int} (h : Ri B w v L) : NRow w B w.heap.size v (fun i => L.getD i 0) L.length := by
  by_cases e : L.length = 0
  · rcases h.1.2 with ⟨rfl, _⟩ | ⟨g, cap, cur, rfl, _⟩
    · exact Or.inl ⟨e, _, _, rfl⟩
    · exact Or.inl ⟨e, _, _, by rw [e]⟩
  · obtain ⟨g, cap, rfl, _⟩ := World.ownsRow.form h.1 (by omega)
    have hl := h.lt g rfl
    exact Or.inr ⟨g, cap, rfl, hl.1, hl.2, own_owned h.1 _ (fun i hi => by unfold il; rw [List.getElem?_map]; show _ = some (Value.int .i64 (L.getD i 0)); rw [List.getD_eq_getElem?_getD, List.getElem?_eq_getElem hi]; rfl)⟩
theorem nrow_own {B : Nat} {w : World} {v : Value} {L : List Int} (h : IOwn B w v L) : NRow w B w.heap.size v (fun i => L.getD i 0) L.length := by
  rcases h with ⟨rfl, rfl⟩ | ⟨g, c, rfl, _, hB, O⟩
  · exact Or.inl ⟨rfl, _, _, rfl⟩
  · exact Or.inr ⟨g, c, rfl, hB, O.hi, O⟩
theorem eqNR {w : World} {lo hi lo' hi' : Nat} {u v : Value} {f : Nat → Int} {n : Nat} (U : NRow w lo hi u f n) (V : NRow w lo' hi' v f n) (hn : n ≤ 1048576) : Calls Tryd.prog 29 #[u, v] w fun r w' => r = .returned (.bool true) ∧ Below w.heap.size w w' := by
  by_cases e : n = 0
  · subst e
    obtain ⟨a, c, rfl⟩ : ∃ a c, u = .slice a 0 c := by
      rcases U with ⟨_, h⟩ | ⟨g, c, h, _⟩
      · exact h
      · exact ⟨_, _, h⟩
    obtain ⟨a', c', rfl⟩ : ∃ a c, v = .slice a 0 c := by
      rcases V with ⟨_, h⟩ | ⟨g, c, h, _⟩
      · exact h
      · exact ⟨_, _, h⟩
    refine (eqN0 a a' c c' w).mono ?_
    rintro r w' ⟨rfl, rfl⟩
    exact ⟨rfl, Below.refl _ _⟩
  · obtain ⟨g, c, rfl, _, _, O⟩ := U.resolve_left (fun h => e h.1)
    obtain ⟨g', c', rfl, _, _, O'⟩ := V.resolve_left (fun h => e h.1)
    refine (eqN n g g' c c' f w hn O.cell O'.cell).mono ?_
    rintro r w' ⟨rfl, q, rfl⟩
    exact ⟨rfl, below_drewN (Below.refl _ _) q⟩
theorem markNR {w : World} {lo hi : Nat} {u : Value} {f : Nat → Int} {n : Nat} (U : NRow w lo hi u f n) (hn : n ≤ 1048576) : Calls Tryd.prog 30 #[u, .int .i64 1] w fun r w' => r = .returned (.int .i64 ((1 + n : Nat) : Int)) ∧ NRow w' lo hi u (fun i => ((1 + i : Nat) : Int)) n ∧ ∃ p, lo ≤ p ∧ Only p w w' := by
  by_cases e : n = 0
  · subst e
    obtain ⟨a, c, rfl⟩ : ∃ a c, u = .slice a 0 c := by
      rcases U with ⟨_, h⟩ | ⟨g, c, h, _⟩
      · exact h
      · exact ⟨_, _, h⟩
    refine (markN0 a c 1 w).mono ?_
    rintro r w' ⟨rfl, rfl⟩
    exact ⟨rfl, Or.inl ⟨rfl, _, _, rfl⟩, lo, Nat.le_refl _, Only.refl _ _⟩
  · obtain ⟨g, c, rfl, h1, h2, O⟩ := U.resolve_left (fun h => e h.1)
    refine (markN O c 1 hn (by omega)).mono ?_
    rintro r w' ⟨rfl, O', k⟩
    exact ⟨rfl, Or.inr ⟨g, c, rfl, h1, h2, O'⟩, g, h1, k⟩
theorem heldNR {w : World} {lo hi : Nat} {u : Value} {n : Nat} (U : NRow w lo hi u (fun i => ((1 + i : Nat) : Int)) n) (hn : n ≤ 1048576) : Calls Tryd.prog 47 #[u, .int .i64 1] w fun r w' => r = .returned (.int .i64 ((1 + n : Nat) : Int)) ∧ w' = w := by
  by_cases e : n = 0
  · subst e
    obtain ⟨a, c, rfl⟩ : ∃ a c, u = .slice a 0 c := by
      rcases U with ⟨_, h⟩ | ⟨g, c, h, _⟩
      · exact h
      · exact ⟨_, _, h⟩
    exact heldN0 a c 1 w
  · obtain ⟨g, c, rfl, h1, h2, O⟩ := U.resolve_left (fun h => e h.1)
    exact heldN c 1 O hn (by omega)
theorem viewS {H : Type} {enc : TypeId × Value → H} {P : Program} {W : World} {base : Nat} {e : TypeId} {f0 f1 f2 f3 f4 f5 : Field} {v : Value} {d : DataW H} {p : List MemPlace} (he : P.underlying e = some (.struct #[f0, f1, f2, f3, f4, f5])) (ce : P.cellsOf e = 6)
    (o0 : f0.offset = 0) (o1 : f1.offset = 1) (o2 : f2.offset = 2) (o3 : f3.offset = 3) (o4 : f4.offset = 4) (o5 : f5.offset = 5) (c0 : P.cellsOf f0.type = 1) (c1 : P.cellsOf f1.type = 1) (c2 : P.cellsOf f2.type = 1) (c3 : P.cellsOf f3.type = 1) (c4 : P.cellsOf f4.type = 1) (c5 : P.cellsOf f5.type = 1) (u0 : P.underlying f0.type = some (.int .i64)) (u1 : P.underlying f1.type = some (.int .i64)) (u2 : P.underlying f2.type = some (.int .i64)) (u3 : P.underlying f3.type = some (.int .i64)) (u4 : P.underlying f4.type = some (.int .i64)) (u5 : P.underlying f5.type = some (.int .u32))
    (hok : Value.okWide P W .any base e v) (h : DataW.Trod enc P W 0 (fun _ => true) true e v d p) :
    ∃ (n0 n1 n2 n3 n4 n5 : Int), v = .agg #[.int .i64 n0, .int .i64 n1, .int .i64 n2, .int .i64 n3, .int .i64 n4, .int .u32 n5] ∧ (Lit.int .u32 n5).wf = true := by
  obtain ⟨cs, rfl, hs⟩ := okWide_struct he hok
  obtain ⟨fuel, h2⟩ := h
  rw [ce] at hs
  obtain ⟨l⟩ := cs
  simp only [Value.cells] at h2
  obtain ⟨xs, k, hk, hxy, _, hxl, hf⟩ := DataW.trod_struct he h2
  match xs, hxl, l, hs with
  | [y0, y1, y2, y3, y4, y5], _, [v0, v1, v2, v3, v4, v5], _ =>
    have g0 := hf 0 f0 rfl
    have g1 := hf 1 f1 rfl
    have g2 := hf 2 f2 rfl
    have g3 := hf 3 f3 rfl
    have g4 := hf 4 f4 rfl
    have g5 := hf 5 f5 rfl
    simp [o0, o1, o2, o3, o4, o5, c0, c1, c2, c3, c4, c5] at g0 g1 g2 g3 g4 g5
    obtain ⟨n0, hv0, _, hw0⟩ := DataW.trod_int u0 g0
    obtain ⟨n1, hv1, _, hw1⟩ := DataW.trod_int u1 g1
    obtain ⟨n2, hv2, _, hw2⟩ := DataW.trod_int u2 g2
    obtain ⟨n3, hv3, _, hw3⟩ := DataW.trod_int u3 g3
    obtain ⟨n4, hv4, _, hw4⟩ := DataW.trod_int u4 g4
    obtain ⟨n5, hv5, _, hw5⟩ := DataW.trod_int u5 g5
    simp only [List.cons.injEq, and_true] at hv0 hv1 hv2 hv3 hv4 hv5
    subst hv0 hv1 hv2 hv3 hv4 hv5
    exact ⟨n0, n1, n2, n3, n4, n5, rfl, hw5⟩
end Go.Proofs.YtcgapochcahknaaDoor
