/- Contracts of SumWholes, of the program and of its model; conditions: the words stand in memory. -/
import Derived.Test.YtlcfpcapefeajaaPick
import Derived.Test.YtlcfpcapefeajaaMask
namespace Go.Proofs.Ytlcfpcapefeajaa
open Go.ChangeShapes Go.WideShapes Go.ChangeAt Go.RowKit
theorem shape {w : World} {b : Nat} {v : Value} {xs : List Int} (h : w.ownsRow b 39 1 v xs.length (xs.map (Value.int .u32))) :
    (v = .slice none 0 0 ∧ Hid (xs = [])) ∨ ∃ g cap, v = .slice (some ⟨g, 0, none⟩) xs.length cap ∧ b ≤ g ∧ Own w g xs.length (fun i => .int .u32 (xs.getD i 0)) := by
  have h' := h
  obtain ⟨_, ⟨h1, h2⟩ | ⟨g, cap, cur, rfl, hg, r⟩⟩ := h
  · exact Or.inl ⟨h1, List.length_eq_zero_iff.1 h2⟩
  · exact Or.inr ⟨g, cap, rfl, hg, own_owned h' _ (fun i hi => by simp [List.getD, hi])⟩
/-- The sum of the first k numbers, as words wrap. -/
def su (l : List Int) : Nat → Int
  | 0 => 0
  | k + 1 => (su l k + l.getD k 0) % 4294967296

set_option maxRecDepth 100000 in
set_option maxHeartbeats 2000000 in
theorem sum24 (n a ca : Nat) (d : Nat → Int) (m : Int) (w : World) (hn : n ≤ 16) (hg : goodM n m = true) (la : a < w.heap.size) (hc : ∀ i, i < n → w.cell? ⟨a, i, none⟩ = some (.int .u32 (d i))) :
    Calls Try.prog 24 #[.slice (some ⟨a, 0, none⟩) n ca, .int .i64 m] w fun r w' => r = .returned (.tuple #[.int .u32 (su (pk d m n) (pk d m n).length), .bool true]) ∧ Below w.heap.size w w' := by
  have HC : Hid (∀ i, i < n → w.cell? ⟨a, i, none⟩ = some (.int .u32 (d i))) := hc
  clear hc
  have pl := pk_le d m n
  go_enter Try.func24, Try.ntmps24
  go_wp2_with (first | (go_at_call 9; refine (gm9 _ _ _).mono ?_; rintro e w1 ⟨rfl, hw1⟩; subst w1; rw [hg]) | (go_at_call 32; refine (pick32 n a ca d m w hn la HC.out).mono ?_; rintro e w2 ⟨v, rfl, OW, B2⟩; rcases shape OW with ⟨rfl, HL⟩ | ⟨g, cap, rfl, hg2, O2⟩))
  · have e0 : pk d m n = [] := HL
    have HE : Hid (pk d m n = []) := e0
    clear e0
    refine wp_loop_rounds 1 ?_
    rw [rounds_succ]
    go_wp2
    go_ret2
    exact ⟨by rw [HE.out]; rfl, B2⟩
  · obtain ⟨l, hl⟩ : ∃ l, pk d m n = l := ⟨_, rfl⟩
    rw [hl] at pl O2 ⊢
    have HP : Hid (pk d m n = l) := hl
    clear hl
    have O2c := O2.cell
    have HO2 : Hid (∀ i, i < l.length → w2.cell? ⟨g, i, none⟩ = some (.int .u32 (l.getD i 0))) := O2c
    clear O2c O2 OW
    obtain ⟨N, hN⟩ : ∃ N, l.length = N := ⟨_, rfl⟩
    rw [hN] at pl HO2 ⊢
    have HN : Hid (l.length = N) := hN
    clear hN
    go_loopw [6, 18] (fun s i wr => ∃ k : Nat, k ≤ N ∧ i = .int .i64 k ∧ s = .int .u32 (su l k) ∧ wr = w2) (fun _ i _ => N - (intOf i).toNat)
    case atStart => exact ⟨0, Nat.zero_le _, rfl, rfl, rfl⟩
    case round =>
      obtain ⟨k, hk, rfl, rfl, hwr⟩ := hrel
      subst wr
      by_cases hkn : k < N
      · have i0 : (0 : Int) ≤ (k : Int) := by omega
        have i1 : (k : Int) < (N : Int) := by omega
        have cx := HO2.out k hkn
        obtain ⟨x, hx⟩ : ∃ x, l.getD k 0 = x := ⟨_, rfl⟩
        rw [hx] at cx
        have HX : Hid (l.getD k 0 = x) := hx
        clear hx
        obtain ⟨s, hs⟩ : ∃ s, su l k = s := ⟨_, rfl⟩
        rw [hs]
        have HS : Hid (su l k = s) := hs
        clear hs
        go_wp2
        go_roundw
        case rel => exact ⟨k + 1, by omega, by go_num, by show _ = Value.int _ (su l (k + 1)); rw [su, HX.out, HS.out], by first | rfl | trivial⟩
        case measure => simp [intOf]; omega
      · have hkk : k = N := by omega
        subst hkk
        go_wp2
        go_ret2
        exact ⟨by rw [HP.out, HN.out]; rfl, B2⟩
set_option maxRecDepth 100000 in
theorem sum24x (n : Nat) (a : Option Addr) (ca : Nat) (m : Int) (w : World) (hg : goodM n m = false) :
    Calls Try.prog 24 #[.slice a n ca, .int .i64 m] w fun r w' => r = .returned (.tuple #[.int .u32 0, .bool false]) ∧ w' = w := by
  go_enter Try.func24, Try.ntmps24
  go_wp2_with (go_at_call 9; refine (gm9 _ _ _).mono ?_; rintro e w1 ⟨rfl, hw1⟩; subst w1; rw [hg])
  go_ret2
  exact ⟨rfl, rfl⟩

set_option maxRecDepth 100000 in
set_option maxHeartbeats 2000000 in
theorem sum25 (n a ca : Nat) (d : Nat → Int) (m : Int) (w : World) (hn : n ≤ 16) (hg : goodM n m = true) (la : a < w.heap.size) (hc : ∀ i, i < n → w.cell? ⟨a, i, none⟩ = some (.int .u32 (d i))) :
    Calls Try.prog 25 #[.slice (some ⟨a, 0, none⟩) n ca, .int .i64 m] w fun r w' => r = .returned (.tuple #[.int .u32 (su (pk d m n) (pk d m n).length), .bool true]) ∧ Below w.heap.size w w' := by
  have HC : Hid (∀ i, i < n → w.cell? ⟨a, i, none⟩ = some (.int .u32 (d i))) := hc
  clear hc
  have pl := pk_le d m n
  go_enter Try.func25, Try.ntmps25
  go_wp2_with (first | (go_at_call 10; refine (gm10 _ _ _).mono ?_; rintro e w1 ⟨rfl, hw1⟩; subst w1; rw [hg]) | (go_at_call 31; refine (lanes31 m w).mono ?_; rintro e w1 ⟨rfl, B1⟩) | (go_at_call 33; refine (pick33 n a ca d m w1 hn (by have := B1.size; omega) (fun i hi => (B1.cell (p := ⟨a, i, none⟩) la).trans (HC.out i hi))).mono ?_; rintro e w2 ⟨v, rfl, OW, B2'⟩; have B2 := B1.trans (B2'.mono B1.size); rcases shape OW with ⟨rfl, HL⟩ | ⟨g, cap, rfl, hg2, O2⟩))
  · have e0 : pk d m n = [] := HL
    have HE : Hid (pk d m n = []) := e0
    clear e0
    refine wp_loop_rounds 1 ?_
    rw [rounds_succ]
    go_wp2
    go_ret2
    exact ⟨by rw [HE.out]; rfl, B2⟩
  · obtain ⟨l, hl⟩ : ∃ l, pk d m n = l := ⟨_, rfl⟩
    rw [hl] at pl O2 ⊢
    have HP : Hid (pk d m n = l) := hl
    clear hl
    have O2c := O2.cell
    have HO2 : Hid (∀ i, i < l.length → w2.cell? ⟨g, i, none⟩ = some (.int .u32 (l.getD i 0))) := O2c
    clear O2c O2 OW
    obtain ⟨N, hN⟩ : ∃ N, l.length = N := ⟨_, rfl⟩
    rw [hN] at pl HO2 ⊢
    have HN : Hid (l.length = N) := hN
    clear hN
    go_loopw [6, 19] (fun s i wr => ∃ k : Nat, k ≤ N ∧ i = .int .i64 k ∧ s = .int .u32 (su l k) ∧ wr = w2) (fun _ i _ => N - (intOf i).toNat)
    case atStart => exact ⟨0, Nat.zero_le _, rfl, rfl, rfl⟩
    case round =>
      obtain ⟨k, hk, rfl, rfl, hwr⟩ := hrel
      subst wr
      by_cases hkn : k < N
      · have i0 : (0 : Int) ≤ (k : Int) := by omega
        have i1 : (k : Int) < (N : Int) := by omega
        have cx := HO2.out k hkn
        obtain ⟨x, hx⟩ : ∃ x, l.getD k 0 = x := ⟨_, rfl⟩
        rw [hx] at cx
        have HX : Hid (l.getD k 0 = x) := hx
        clear hx
        obtain ⟨s, hs⟩ : ∃ s, su l k = s := ⟨_, rfl⟩
        rw [hs]
        have HS : Hid (su l k = s) := hs
        clear hs
        go_wp2
        go_roundw
        case rel => exact ⟨k + 1, by omega, by go_num, by show _ = Value.int _ (su l (k + 1)); rw [su, HX.out, HS.out], by first | rfl | trivial⟩
        case measure => simp [intOf]; omega
      · have hkk : k = N := by omega
        subst hkk
        go_wp2
        go_ret2
        exact ⟨by rw [HP.out, HN.out]; rfl, B2⟩
set_option maxRecDepth 100000 in
theorem sum25x (n : Nat) (a : Option Addr) (ca : Nat) (m : Int) (w : World) (hg : goodM n m = false) :
    Calls Try.prog 25 #[.slice a n ca, .int .i64 m] w fun r w' => r = .returned (.tuple #[.int .u32 0, .bool false]) ∧ w' = w := by
  go_enter Try.func25, Try.ntmps25
  go_wp2_with (go_at_call 10; refine (gm10 _ _ _).mono ?_; rintro e w1 ⟨rfl, hw1⟩; subst w1; rw [hg])
  go_ret2
  exact ⟨rfl, rfl⟩

end Go.Proofs.Ytlcfpcapefeajaa
