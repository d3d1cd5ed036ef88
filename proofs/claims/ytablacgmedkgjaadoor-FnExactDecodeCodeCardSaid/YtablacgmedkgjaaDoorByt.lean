/- Rows of bytes: copies (toByteS), comparisons (eqByteS), marks (markByteS, heldByteS), an argument opened; conditions: the row stands in memory, at most 2^20 long. -/
import Derived.Test.YtablacgmedkgjaaDoorMem
import Derived.Test.YtablacgmedkgjaaDoorRwi
import Derived.Deep.Grids
namespace Go.Proofs.YtablacgmedkgjaaDoor
open Go.ChangeShapes Go.WideShapes Go.ChangeAt Go.RowKit
set_option linter.unusedVariables false
/-- A slice that came in: n elements at a; of an empty one nothing is asked. -/
def Arg (w : World) (a : Option Addr) (n : Nat) (f : Nat → Value) : Prop := n = 0 ∨ ∃ b off, a = some ⟨b, off, none⟩ ∧ b < w.heap.size ∧ ∀ i, i < n → w.cell? ⟨b, off + i, none⟩ = some (f i)
theorem Arg.next {w w' : World} {a : Option Addr} {n : Nat} {f : Nat → Value} (h : Arg w a n f) (hb : Below w.heap.size w w') : Arg w' a n f := by
  rcases h with h | ⟨b, off, ha, hl, hc⟩
  · exact Or.inl h
  · exact Or.inr ⟨b, off, ha, by have := hb.size; omega, fun i hi => (hb.cell (p := ⟨b, off + i, none⟩) hl).trans (hc i hi)⟩
theorem Arg.drewN {w : World} {a : Option Addr} {n : Nat} {f : Nat → Value} (h : Arg w a n f) (q : Nat) : Arg (w.drewN q) a n f := h
theorem Arg.to {w0 w : World} {a : Option Addr} {n : Nat} {f : Nat → Value} (h : Arg w0 a n f) (hb : Below w0.heap.size w0 w) : Arg w a n f := h.next hb
theorem zero_wf (k : IntKind) : (Lit.int k 0).wf = true := by cases k <;> rfl
section
variable {H : Type} {enc : TypeId × Value → H} {P : Program} {W : World} {base : Nat}
theorem view_ints {t e : TypeId} {k : IntKind} {v : Value} {d : DataW H} {p : List MemPlace} (ht : P.underlying t = some (.slice e)) (he : P.underlying e = some (.int k)) (hc : P.cellsOf e = 1)
    (hok : Value.okWide P W .any base t v) (h : DataW.Trod enc P W 0 (fun _ => true) true t v d p) (hlt : ∀ x ∈ p, x.block < W.heap.size) :
    ∃ (a : Option Addr) (len cap : Nat) (f : Nat → Int), v = .slice a len cap ∧ len ≤ 9223372036854775807 ∧ Arg W a len (fun i => .int k (f i)) ∧ ∀ i, (Lit.int k (f i)).wf = true := by
  obtain ⟨a0, len, cap, rfl⟩ := okWide_slice ht hok
  obtain ⟨fuel, hf⟩ := h
  rcases open_ints ht he hc hf with ⟨hcs, hx⟩ | ⟨a, len', cap', zs, hcs, _, hl, hm, hz, hx, hcell, hwz⟩
  · simp [Value.cells] at hcs
    obtain ⟨rfl, rfl, rfl⟩ := hcs
    exact ⟨_, 0, 0, fun _ => 0, rfl, by omega, Or.inl rfl, fun _ => zero_wf k⟩
  · simp [Value.cells] at hcs
    obtain ⟨rfl, rfl, rfl⟩ := hcs
    simp only [Prod.mk.injEq] at hx
    obtain ⟨rfl, rfl⟩ := hx
    simp only [if_true] at hz
    refine ⟨_, len, cap, fun i => zs.getD i 0, rfl, by unfold maxLen at hm; omega, ?_, fun i => ?_⟩
    · by_cases hl0 : len = 0
      · exact Or.inl hl0
      · obtain ⟨b, off, spot⟩ := a
        have hspot : spot = none := by simpa [Addr.add] using World.cell?_spot (hcell 0 (by omega))
        subst hspot
        have hbW : b < W.heap.size := hlt (.cell b off) (MemPlace.mem_row.2 ⟨0, by omega, by simp⟩)
        exact Or.inr ⟨b, off, rfl, hbW, fun j hj => by rw [← add_plain]; exact hcell j (by omega)⟩
    · show (Lit.int k (zs.getD i 0)).wf = true
      by_cases hi : i < zs.length
      · have e : zs.getD i 0 = zs[i] := by simp [List.getD, hi]
        rw [e]
        exact hwz _ (List.getElem_mem hi)
      · have e : zs.getD i 0 = 0 := by simp [List.getD, List.getElem?_eq_none (Nat.le_of_not_lt hi)]
        rw [e]
        exact zero_wf k
end
theorem info5 : (Tryd.prog.info? 5).map (fun i => (i.zero, i.size, i.bytes)) = some (some (.int .u8 0), 1, 1) := by kernel_rfl
set_option maxRecDepth 100000 in
set_option maxHeartbeats 1000000 in
theorem toY (n b off cap : Nat) (f : Nat → Int) (w : World) (hn : n ≤ 1048576) (hb : b < w.heap.size) (hc : ∀ i, i < n → w.cell? ⟨b, off + i, none⟩ = some (.int .u8 (f i))) :
    Calls Tryd.prog 29 #[.slice (some ⟨b, off, none⟩) n cap] w fun r w' => r = .returned (.slice (some ⟨w.heap.size, 0, none⟩) n n) ∧ Own w' w.heap.size n (fun i => .int .u8 (f i)) ∧ Below w.heap.size w w' := by
  obtain ⟨i0, hi, hz0, hz1, hz2⟩ := info_parts info5
  go_enter Tryd.func29, Tryd.ntmps29
  go_wp2_with (at_make; refine wpList_make_full _ rfl _ _ 40 rfl w.heap.size 5 i0 (.int .u8 0) 1 Tryd.underlying40 hi hz0 hz1 _ _ _ _ n rfl rfl (by first | rfl | omega) (by first | rfl | omega) (by rw [hz2]; omega) (by unfold maxLen; omega) (Nat.le_refl _) ?_; intro w1 hown hgrow)
  have O1 : Own w1 w.heap.size n (fun _ => .int .u8 0) := own_made hown
  have B1 : Below w.heap.size w w1 := (Below.refl _ _).grown hgrow (Nat.le_refl _) (by simp)
  clear hown hgrow hi hz0 hz1 hz2
  go_loopw [4] (fun i wr => ∃ k : Nat, k ≤ n ∧ i = .int .i64 k ∧ Own wr w.heap.size n (fun j => if j < k then .int .u8 (f j) else .int .u8 0) ∧ Below w.heap.size w wr) (fun i _ => n - (intOf i).toNat)
  case atStart => exact ⟨0, by omega, rfl, O1.mono (Nat.le_refl _) (fun j _ => by simp), B1⟩
  case round =>
    obtain ⟨k, hk, rfl, OK, BK⟩ := hrel
    by_cases hkn : k < n
    · have i1 : (k : Int) < (n : Int) := by omega
      have i0 : (0 : Int) ≤ (k : Int) := by omega
      have f0 := OK.free k
      have g0 : wr.cell? ⟨w.heap.size, k, none⟩ = some (.int .u8 0) := by have := OK.cell k hkn; simpa using this
      have c0 : wr.cell? ⟨b, off + k, none⟩ = some (.int .u8 (f k)) := (BK.cell (p := ⟨b, off + k, none⟩) hb).trans (hc k hkn)
      go_wp2
      go_roundw
      case rel => exact ⟨k + 1, by omega, by go_num, OK.set k _ hkn (fun j _ => by by_cases e1 : j = k; subst e1; simp; rw [if_neg e1]; by_cases e2 : j < k; rw [if_pos e2, if_pos (by omega)]; rw [if_neg e2, if_neg (by omega)]), BK.setCell (Nat.le_refl _) _⟩
      case measure => simp [intOf]; omega
    · have hkk : k = n := by omega
      subst hkk
      go_wp2
      go_ret
      exact ⟨rfl, OK.mono (Nat.le_refl _) (fun j hj => by simp [hj]), BK⟩
set_option maxRecDepth 100000 in
theorem toY0 (a : Option Addr) (cap : Nat) (f : Nat → Int) (w : World) :
    Calls Tryd.prog 29 #[.slice a 0 cap] w fun r w' => r = .returned (.slice (some ⟨w.heap.size, 0, none⟩) 0 0) ∧ Own w' w.heap.size 0 (fun i => .int .u8 (f i)) ∧ Below w.heap.size w w' := by
  obtain ⟨i0, hi, hz0, hz1, hz2⟩ := info_parts info5
  go_enter Tryd.func29, Tryd.ntmps29
  go_wp2_with (at_make; refine wpList_make_full _ rfl _ _ 40 rfl w.heap.size 5 i0 (.int .u8 0) 1 Tryd.underlying40 hi hz0 hz1 _ _ _ _ 0 rfl rfl (by first | rfl | omega) (by first | rfl | omega) (by rw [hz2]; omega) (by unfold maxLen; omega) (Nat.le_refl _) ?_; intro w1 hown hgrow)
  have O1 : Own w1 w.heap.size 0 (fun _ => .int .u8 0) := own_made hown
  have B1 : Below w.heap.size w w1 := (Below.refl _ _).grown hgrow (Nat.le_refl _) (by simp)
  clear hown hgrow hi hz0 hz1 hz2
  refine wp_loop_rounds 1 ?_
  rw [rounds_succ]
  go_wp2
  go_ret
  exact ⟨rfl, O1.mono (Nat.le_refl _) (fun j hj => by omega), B1⟩
set_option maxHeartbeats 1000000 in
theorem eqY (n a b ca cb : Nat) (f : Nat → Int) (w : World) (hn : n ≤ 1048576) (ha : ∀ i, i < n → w.cell? ⟨a, i, none⟩ = some (.int .u8 (f i))) (hb : ∀ i, i < n → w.cell? ⟨b, i, none⟩ = some (.int .u8 (f i))) :
    Calls Tryd.prog 24 #[.slice (some ⟨a, 0, none⟩) n ca, .slice (some ⟨b, 0, none⟩) n cb] w fun r w' => r = .returned (.bool true) ∧ ∃ k, w' = w.drewN k := by
  go_enter Tryd.func24, Tryd.ntmps24
  go_wp2
  go_loopw [5] (fun i wx => ∃ k q : Nat, k ≤ n ∧ i = .int .i64 k ∧ wx = w.drewN q) (fun i _ => n - (intOf i).toNat)
  case atStart => exact ⟨0, 0, by omega, rfl, rfl⟩
  case round =>
    obtain ⟨k, q, hk, rfl, rfl⟩ := hrel
    by_cases hkn : k < n
    · have c1 : w.cell? ⟨a, k, none⟩ = some (.int .u8 (f k)) := ha k hkn
      have c2 : w.cell? ⟨b, k, none⟩ = some (.int .u8 (f k)) := hb k hkn
      have i0 : (0 : Int) ≤ (k : Int) := by omega
      have i1 : (k : Int) < (n : Int) := by omega
      go_wp2
      go_quiet (fail)
      go_wp2
      go_roundw
      case rel => exact ⟨k + 1, _, by omega, by go_num, rfl⟩
      case measure => simp [intOf]; omega
    · have hkk : k = n := by omega
      subst hkk
      go_wp2
      go_ret
      exact ⟨rfl, q, rfl⟩
theorem eqY0 (a b : Option Addr) (ca cb : Nat) (w : World) :
    Calls Tryd.prog 24 #[.slice a 0 ca, .slice b 0 cb] w fun r w' => r = .returned (.bool true) ∧ w' = w := by
  go_enter Tryd.func24, Tryd.ntmps24
  go_wp2
  refine wp_loop_rounds 1 ?_
  rw [rounds_succ]
  go_wp2
  go_ret
  exact ⟨rfl, rfl⟩
theorem argY {w : World} {a : Option Addr} {n : Nat} {f : Nat → Int} (h : Arg w a n (fun i => .int .u8 (f i))) (cap : Nat) (hn : n ≤ 1048576) :
    Calls Tryd.prog 29 #[.slice a n cap] w fun r w' => r = .returned (.slice (some ⟨w.heap.size, 0, none⟩) n n) ∧ Own w' w.heap.size n (fun i => .int .u8 (f i)) ∧ Below w.heap.size w w' := by
  rcases h with rfl | ⟨b, off, rfl, hl, hc⟩
  · exact toY0 a cap f w
  · exact toY n b off cap f w hn hl hc
set_option maxHeartbeats 1000000 in
theorem markY {n a : Nat} {f : Nat → Value} {w : World} (O : Own w a n f) (ca k0 : Nat) (hn : n ≤ 1048576) (hk0 : k0 ≤ 10000000) :
    Calls Tryd.prog 26 #[.slice (some ⟨a, 0, none⟩) n ca, .int .i64 k0] w fun r w' => r = .returned (.int .i64 ((k0 + n : Nat) : Int)) ∧ Own w' a n (fun i => .int .u8 (((k0 + i : Nat) : Int) % 256)) ∧ Only a w w' := by
  go_enter Tryd.func26, Tryd.ntmps26
  go_wp2
  go_loopw [1, 5] (fun q i wr => ∃ k : Nat, k ≤ n ∧ i = .int .i64 k ∧ q = .int .i64 ((k0 + k : Nat) : Int) ∧ Own wr a n (fun j => if j < k then .int .u8 (((k0 + j : Nat) : Int) % 256) else f j) ∧ Only a w wr) (fun _ i _ => n - (intOf i).toNat)
  case atStart => exact ⟨0, by omega, rfl, rfl, O.mono (Nat.le_refl _) (fun j _ => by simp), Only.refl _ _⟩
  case round =>
    obtain ⟨k, hk, rfl, rfl, OK, BK⟩ := hrel
    by_cases hkn : k < n
    · have i1 : (k : Int) < (n : Int) := by omega
      have i0 : (0 : Int) ≤ (k : Int) := by omega
      obtain ⟨s, hs⟩ : ∃ s : Nat, k0 + k = s := ⟨_, rfl⟩
      rw [hs]
      have s1 : (s : Int) < 4294967296 := by omega
      have s0 : (0 : Int) ≤ (s : Int) := by omega
      have HS : Hid (k0 + k = s) := hs
      clear hs
      have f0 := OK.free k
      have g0 : wr.cell? ⟨a, k, none⟩ = some (f k) := by have := OK.cell k hkn; simpa using this
      go_wp2
      go_roundw
      case rel => exact ⟨k + 1, by omega, by go_num, by have := HS.out; rw [show k0 + (k + 1) = s + 1 by omega]; go_num, OK.set k _ hkn (fun j _ => by have hs := HS.out; by_cases e1 : j = k; (subst e1; rw [hs]; simp); rw [if_neg e1]; by_cases e2 : j < k; rw [if_pos e2, if_pos (by omega)]; rw [if_neg e2, if_neg (by omega)]), BK.setCell _ _⟩
      case measure => simp [intOf]; omega
    · have hkk : k = n := by omega
      subst hkk
      go_wp2
      go_ret
      exact ⟨rfl, OK.mono (Nat.le_refl _) (fun j hj => by simp [hj]), BK⟩
theorem markY0 (a : Option Addr) (ca : Nat) (k : Int) (w : World) :
    Calls Tryd.prog 26 #[.slice a 0 ca, .int .i64 k] w fun r w' => r = .returned (.int .i64 k) ∧ w' = w := by
  go_enter Tryd.func26, Tryd.ntmps26
  go_wp2
  refine wp_loop_rounds 1 ?_
  rw [rounds_succ]
  go_wp2
  go_ret
  exact ⟨rfl, rfl⟩
set_option maxHeartbeats 1000000 in
theorem heldY {n a : Nat} {w : World} (ca k0 : Nat) (O : Own w a n (fun i => .int .u8 (((k0 + i : Nat) : Int) % 256))) (hn : n ≤ 1048576) (hk0 : k0 ≤ 10000000) :
    Calls Tryd.prog 27 #[.slice (some ⟨a, 0, none⟩) n ca, .int .i64 k0] w fun r w' => r = .returned (.int .i64 ((k0 + n : Nat) : Int)) ∧ w' = w := by
  have HC : Hid (∀ i, i < n → w.cell? ⟨a, i, none⟩ = some (.int .u8 (((k0 + i : Nat) : Int) % 256))) := O.cell
  clear O
  go_enter Tryd.func27, Tryd.ntmps27
  go_wp2
  go_loopw [1, 5] (fun q i wr => ∃ k : Nat, k ≤ n ∧ i = .int .i64 k ∧ q = .int .i64 ((k0 + k : Nat) : Int) ∧ wr = w) (fun _ i _ => n - (intOf i).toNat)
  case atStart => exact ⟨0, by omega, rfl, rfl, rfl⟩
  case round =>
    obtain ⟨k, hk, rfl, rfl, hwr⟩ := hrel
    subst wr
    by_cases hkn : k < n
    · have i1 : (k : Int) < (n : Int) := by omega
      have i0 : (0 : Int) ≤ (k : Int) := by omega
      have g0 := HC.out k hkn
      obtain ⟨s, hs⟩ : ∃ s : Nat, k0 + k = s := ⟨_, rfl⟩
      rw [hs] at g0 ⊢
      have s1 : (s : Int) < 4294967296 := by omega
      have s0 : (0 : Int) ≤ (s : Int) := by omega
      have HS : Hid (k0 + k = s) := hs
      clear hs
      go_wp2
      go_roundw
      case rel => exact ⟨k + 1, by omega, by go_num, by have := HS.out; rw [show k0 + (k + 1) = s + 1 by omega]; go_num, by first | rfl | trivial⟩
      case measure => simp [intOf]; omega
    · have hkk : k = n := by omega
      subst hkk
      go_wp2
      go_ret
      exact ⟨rfl, rfl⟩
theorem heldY0 (a : Option Addr) (ca : Nat) (k : Int) (w : World) :
    Calls Tryd.prog 27 #[.slice a 0 ca, .int .i64 k] w fun r w' => r = .returned (.int .i64 k) ∧ w' = w := by
  go_enter Tryd.func27, Tryd.ntmps27
  go_wp2
  refine wp_loop_rounds 1 ?_
  rw [rounds_succ]
  go_wp2
  go_ret
  exact ⟨rfl, rfl⟩
/-- Two rows alike, in any world: the comparison says so, and leaves all as it was. -/
theorem sameY {n a b : Nat} {f : Nat → Int} {w : World} (A : Own w a n (fun i => .int .u8 (f i))) (B : Own w b n (fun i => .int .u8 (f i))) (ca cb : Nat) (hn : n ≤ 1048576) :
    Calls Tryd.prog 24 #[.slice (some ⟨a, 0, none⟩) n ca, .slice (some ⟨b, 0, none⟩) n cb] w fun r w' => r = .returned (.bool true) ∧ Below w.heap.size w w' :=
  (eqY n a b ca cb f w hn A.cell B.cell).mono fun e w' ⟨h1, q, h2⟩ => ⟨h1, by rw [h2]; exact below_drewN (Below.refl _ _) q⟩
end Go.Proofs.YtablacgmedkgjaaDoor
