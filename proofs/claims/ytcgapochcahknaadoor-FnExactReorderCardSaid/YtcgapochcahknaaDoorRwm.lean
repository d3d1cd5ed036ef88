/- Rows of instructions, marked (markInstrS, heldInstrS); conditions: the row stands in memory, at most 2^20 long. -/
import Derived.Test.YtcgapochcahknaaDoorRwi
namespace Go.Proofs.YtcgapochcahknaaDoor
open Go.ChangeShapes Go.WideShapes Go.ChangeAt Go.RowKit
set_option linter.unusedVariables false
theorem upTo {α : Type} (f g : Nat → α) (k j : Nat) : (if j < k + 1 then f j else g j) = if j = k then f k else if j < k then f j else g j := by
  by_cases e1 : j = k
  · subst e1; simp
  · rw [if_neg e1]
    by_cases e2 : j < k
    · rw [if_pos e2, if_pos (by omega)]
    · rw [if_neg e2, if_neg (by omega)]
def mkI0 (i : Nat) : Int := ((1 + 6 * i : Nat) : Int)
def mkI1 (i : Nat) : Int := ((1 + 6 * i + 1 : Nat) : Int)
def mkI2 (i : Nat) : Int := ((1 + 6 * i + 2 : Nat) : Int)
def mkI3 (i : Nat) : Int := ((1 + 6 * i + 3 : Nat) : Int)
def mkI4 (i : Nat) : Int := ((1 + 6 * i + 4 : Nat) : Int)
def mkI5 (i : Nat) : Int := ((1 + 6 * i + 5 : Nat) : Int)
set_option maxHeartbeats 2000000 in
set_option maxRecDepth 100000 in
theorem markI {w : World} {o n : Nat} {F0 : Nat → Int} {F1 : Nat → Int} {F2 : Nat → Int} {F3 : Nat → Int} {F4 : Nat → Int} {F5 : Nat → Int} (R : RowI w o n F0 F1 F2 F3 F4 F5) (c : Nat) (hn : n ≤ 1048576) :
    Calls Tryd.prog 14 #[.slice (some ⟨o, 0, none⟩) n c, .int .i64 1] w fun r w' => r = .returned (.int .i64 ((1 + 6 * n : Nat) : Int)) ∧ RowI w' o n mkI0 mkI1 mkI2 mkI3 mkI4 mkI5 ∧ Only o w w' := by
  go_enter Tryd.func14, Tryd.ntmps14
  go_wp2
  go_loopw [1, 5] (fun l i wr => ∃ k : Nat, k ≤ n ∧ i = .int .i64 k ∧ l = .int .i64 ((1 + 6 * k : Nat) : Int) ∧ RowI wr o n (fun j => if j < k then mkI0 j else F0 j) (fun j => if j < k then mkI1 j else F1 j) (fun j => if j < k then mkI2 j else F2 j) (fun j => if j < k then mkI3 j else F3 j) (fun j => if j < k then mkI4 j else F4 j) (fun j => if j < k then mkI5 j else F5 j) ∧ Only o w wr) (fun _ i _ => n - (intOf i).toNat)
  case atStart => exact ⟨0, by omega, rfl, rfl, R.mono (Nat.le_refl _) (fun j _ => by simp) (fun j _ => by simp) (fun j _ => by simp) (fun j _ => by simp) (fun j _ => by simp) (fun j _ => by simp), Only.refl _ _⟩
  case round =>
    obtain ⟨k, hk, rfl, rfl, RK, OK⟩ := hrel
    by_cases hkn : k < n
    · have i1 : (k : Int) < (n : Int) := by omega
      have i0 : (0 : Int) ≤ (k : Int) := by omega
      obtain ⟨M, hM⟩ : ∃ M : Nat, 1 + 6 * k = M := ⟨_, rfl⟩
      have M0 : M ≤ 6291457 := by omega
      have HM : Hid (1 + 6 * k = M) := hM
      rw [hM]
      have f0 := RK.free (k * 6)
      have g0 : wr.cell? ⟨o, k * 6, none⟩ = some (.int .i64 (F0 k)) := by have := RK.c0 k hkn; simpa using this
      have f1 := RK.free (k * 6 + 1)
      have g1 : wr.cell? ⟨o, k * 6 + 1, none⟩ = some (.int .i64 (F1 k)) := by have := RK.c1 k hkn; simpa using this
      have f2 := RK.free (k * 6 + 2)
      have g2 : wr.cell? ⟨o, k * 6 + 2, none⟩ = some (.int .i64 (F2 k)) := by have := RK.c2 k hkn; simpa using this
      have f3 := RK.free (k * 6 + 3)
      have g3 : wr.cell? ⟨o, k * 6 + 3, none⟩ = some (.int .i64 (F3 k)) := by have := RK.c3 k hkn; simpa using this
      have f4 := RK.free (k * 6 + 4)
      have g4 : wr.cell? ⟨o, k * 6 + 4, none⟩ = some (.int .i64 (F4 k)) := by have := RK.c4 k hkn; simpa using this
      have f5 := RK.free (k * 6 + 5)
      have g5 : wr.cell? ⟨o, k * 6 + 5, none⟩ = some (.int .u32 (F5 k)) := by have := RK.c5 k hkn; simpa using this
      have R0a := RK.set0 k (((M : Nat) : Int))
      have O0a := OK.setCell (k * 6) (.int .i64 (((M : Nat) : Int)))
      have R1a := R0a.set1 k (((M : Nat) : Int) + 1)
      have O1a := O0a.setCell (k * 6 + 1) (.int .i64 (((M : Nat) : Int) + 1))
      have R2a := R1a.set2 k (((M : Nat) : Int) + 1 + 1)
      have O2a := O1a.setCell (k * 6 + 2) (.int .i64 (((M : Nat) : Int) + 1 + 1))
      have R3a := R2a.set3 k (((M : Nat) : Int) + 1 + 1 + 1)
      have O3a := O2a.setCell (k * 6 + 3) (.int .i64 (((M : Nat) : Int) + 1 + 1 + 1))
      have R4a := R3a.set4 k (((M : Nat) : Int) + 1 + 1 + 1 + 1)
      have O4a := O3a.setCell (k * 6 + 4) (.int .i64 (((M : Nat) : Int) + 1 + 1 + 1 + 1))
      have R5a := R4a.set5 k (((M : Nat) : Int) + 1 + 1 + 1 + 1 + 1)
      have O5a := O4a.setCell (k * 6 + 5) (.int .u32 (((M : Nat) : Int) + 1 + 1 + 1 + 1 + 1))
      have HR0 : Hid (_) := R5a
      have HO0 : Hid (_) := O5a
      clear R0a O0a R1a O1a R2a O2a R3a O3a R4a O4a R5a O5a RK OK
      clear hM
      go_wp2
      have hM := HM.out
      have q0 : mkI0 k = ((M : Nat) : Int) := by unfold mkI0; rw [hM]
      have q1 : mkI1 k = ((M : Nat) : Int) + 1 := by unfold mkI1; rw [hM]; omega
      have q2 : mkI2 k = ((M : Nat) : Int) + 1 + 1 := by unfold mkI2; rw [hM]; omega
      have q3 : mkI3 k = ((M : Nat) : Int) + 1 + 1 + 1 := by unfold mkI3; rw [hM]; omega
      have q4 : mkI4 k = ((M : Nat) : Int) + 1 + 1 + 1 + 1 := by unfold mkI4; rw [hM]; omega
      have q5 : mkI5 k = ((M : Nat) : Int) + 1 + 1 + 1 + 1 + 1 := by unfold mkI5; rw [hM]; omega
      refine ⟨⟨k + 1, by omega, by go_num, by congr 1; omega, (HR0.out).mono (Nat.le_refl _) (fun j _ => ?_) (fun j _ => ?_) (fun j _ => ?_) (fun j _ => ?_) (fun j _ => ?_) (fun j _ => ?_), HO0.out⟩, by simp [intOf]; omega⟩
      · rw [← q0]; exact upTo mkI0 F0 k j
      · rw [← q1]; exact upTo mkI1 F1 k j
      · rw [← q2]; exact upTo mkI2 F2 k j
      · rw [← q3]; exact upTo mkI3 F3 k j
      · rw [← q4]; exact upTo mkI4 F4 k j
      · rw [← q5]; exact upTo mkI5 F5 k j
    · have hkk : k = n := by omega
      subst hkk
      go_wp2
      go_ret
      exact ⟨rfl, RK.mono (Nat.le_refl _) (fun j hj => by simp [hj]) (fun j hj => by simp [hj]) (fun j hj => by simp [hj]) (fun j hj => by simp [hj]) (fun j hj => by simp [hj]) (fun j hj => by simp [hj]), OK⟩
set_option maxRecDepth 100000 in
theorem markI0 (a : Option Addr) (c : Nat) (w : World) : Calls Tryd.prog 14 #[.slice a 0 c, .int .i64 1] w fun r w' => r = .returned (.int .i64 1) ∧ w' = w := by
  go_enter Tryd.func14, Tryd.ntmps14
  go_wp2
  refine wp_loop_rounds 1 ?_
  rw [rounds_succ]
  go_wp2
  go_ret
  exact ⟨rfl, rfl⟩
theorem markIV {w : World} {v : Value} {n : Nat} {F0 : Nat → Int} {F1 : Nat → Int} {F2 : Nat → Int} {F3 : Nat → Int} {F4 : Nat → Int} {F5 : Nat → Int} (R : RowIV w v n F0 F1 F2 F3 F4 F5) (hn : n ≤ 1048576) :
    Calls Tryd.prog 14 #[v, .int .i64 1] w fun r w' => r = .returned (.int .i64 ((1 + 6 * n : Nat) : Int)) ∧ RowIV w' v n mkI0 mkI1 mkI2 mkI3 mkI4 mkI5 ∧ w.grownBy w' v.ownBlock := by
  rcases R with ⟨rfl, rfl⟩ | ⟨o, c, rfl, R⟩
  · exact (markI0 none 0 w).mono fun e w' ⟨h1, h2⟩ => ⟨h1, Or.inl ⟨rfl, rfl⟩, by rw [h2]; exact grown_below (Below.refl _ _) _⟩
  · exact (markI R c hn).mono fun e w' ⟨h1, h2, h3⟩ => ⟨h1, Or.inr ⟨o, c, rfl, h2⟩, ⟨h3.os, h3.tape, h3.output, h3.size, fun k hk hne => h3.block k hk (fun e => hne (by rw [e]; rfl))⟩⟩
set_option maxHeartbeats 2000000 in
set_option maxRecDepth 100000 in
theorem heldI {w : World} {o n : Nat} (R : RowI w o n mkI0 mkI1 mkI2 mkI3 mkI4 mkI5) (c : Nat) (hn : n ≤ 1048576) :
    Calls Tryd.prog 15 #[.slice (some ⟨o, 0, none⟩) n c, .int .i64 1] w fun r w' => r = .returned (.int .i64 ((1 + 6 * n : Nat) : Int)) ∧ Below w.heap.size w w' := by
  go_enter Tryd.func15, Tryd.ntmps15
  go_wp2
  go_loopw [1, 5] (fun l i wx => ∃ k : Nat, k ≤ n ∧ i = .int .i64 k ∧ l = .int .i64 ((1 + 6 * k : Nat) : Int) ∧ Below w.heap.size w wx) (fun _ i _ => n - (intOf i).toNat)
  case atStart => exact ⟨0, by omega, rfl, rfl, Below.refl _ _⟩
  case round =>
    obtain ⟨k, hk, rfl, rfl, B⟩ := hrel
    by_cases hkn : k < n
    · have i1 : (k : Int) < (n : Int) := by omega
      have i0 : (0 : Int) ≤ (k : Int) := by omega
      obtain ⟨M, hM⟩ : ∃ M : Nat, 1 + 6 * k = M := ⟨_, rfl⟩
      have M0 : M ≤ 6291457 := by omega
      have RR := R.next B
      have HR : Hid (∀ w2, Below wr.heap.size wr w2 → w2.cell? ⟨o, k * 6, none⟩ = some (.int .i64 (((M : Nat) : Int))) ∧ w2.cell? ⟨o, k * 6 + 1, none⟩ = some (.int .i64 (((M : Nat) : Int) + 1)) ∧ w2.cell? ⟨o, k * 6 + 2, none⟩ = some (.int .i64 (((M : Nat) : Int) + 1 + 1)) ∧ w2.cell? ⟨o, k * 6 + 3, none⟩ = some (.int .i64 (((M : Nat) : Int) + 1 + 1 + 1)) ∧ w2.cell? ⟨o, k * 6 + 4, none⟩ = some (.int .i64 (((M : Nat) : Int) + 1 + 1 + 1 + 1)) ∧ w2.cell? ⟨o, k * 6 + 5, none⟩ = some (.int .u32 (((M : Nat) : Int) + 1 + 1 + 1 + 1 + 1))) := fun w2 B2 => ⟨by rw [(RR.next B2).c0 k hkn, mkI0, hM]; try congr 2, by rw [(RR.next B2).c1 k hkn, mkI1, hM]; try congr 2, by rw [(RR.next B2).c2 k hkn, mkI2, hM]; try congr 2, by rw [(RR.next B2).c3 k hkn, mkI3, hM]; try congr 2, by rw [(RR.next B2).c4 k hkn, mkI4, hM]; try congr 2, by rw [(RR.next B2).c5 k hkn, mkI5, hM]; try congr 2⟩
      obtain ⟨c0, c1, c2, c3, c4, c5⟩ := HR.out wr (Below.refl _ _)
      have HM : Hid (1 + 6 * k = M) := hM
      rw [hM]
      have HB0 : Hid (Below w.heap.size w wr) := B
      have Bz : Below wr.heap.size wr wr := Below.refl _ _
      clear hM RR R 
      go_wp2
      have hM := HM.out
      exact ⟨⟨k + 1, by omega, by go_num, by congr 1; omega, HB0.out.trans (Bz.mono HB0.out.size)⟩, by simp [intOf]; omega⟩
    · have hkk : k = n := by omega
      subst hkk
      go_wp2
      go_ret
      exact ⟨rfl, B⟩
set_option maxRecDepth 100000 in
theorem heldI0 (a : Option Addr) (c : Nat) (w : World) : Calls Tryd.prog 15 #[.slice a 0 c, .int .i64 1] w fun r w' => r = .returned (.int .i64 1) ∧ w' = w := by
  go_enter Tryd.func15, Tryd.ntmps15
  go_wp2
  refine wp_loop_rounds 1 ?_
  rw [rounds_succ]
  go_wp2
  go_ret
  exact ⟨rfl, rfl⟩
theorem heldIV {w : World} {v : Value} {n : Nat} (R : RowIV w v n mkI0 mkI1 mkI2 mkI3 mkI4 mkI5) (hn : n ≤ 1048576) :
    Calls Tryd.prog 15 #[v, .int .i64 1] w fun r w' => r = .returned (.int .i64 ((1 + 6 * n : Nat) : Int)) ∧ Below w.heap.size w w' := by
  rcases R with ⟨rfl, rfl⟩ | ⟨o, c, rfl, R⟩
  · exact (heldI0 none 0 w).mono fun e w' ⟨h1, h2⟩ => ⟨h1, by rw [h2]; exact Below.refl _ _⟩
  · exact heldI R c hn
end Go.Proofs.YtcgapochcahknaaDoor
