/- Contract of the model's product of limbs with a number (l1MulD): digit by digit with what is carried, noughts at the end left off; conditions: the row stands in memory, at most a million limbs, each below 10^9, the number not above 10^9. -/
import Derived.Test.YtamoakodlmjbiaaDoorLimbs3
namespace Go.Proofs.YtamoakodlmjbiaaDoor
open Go.ChangeShapes Go.WideShapes Go.ChangeAt Go.RowKit

/-- What is carried into a place. -/
def mcarry (d : Nat → Nat) (M : Nat) : Nat → Nat
  | 0 => 0
  | i + 1 => (d i * M + mcarry d M i) / 1000000000
def mulDig (n : Nat) (d : Nat → Nat) (M i : Nat) : Nat := if i < n then (d i * M + mcarry d M i) % 1000000000 else mcarry d M n
theorem mcarry_le (d : Nat → Nat) (M : Nat) (hd : ∀ i, d i < 1000000000) (hM : M ≤ 1000000000) : ∀ i, mcarry d M i ≤ 999999999
  | 0 => by simp [mcarry]
  | i + 1 => by
    have h := mcarry_le d M hd hM i
    have a := hd i
    have p : d i * M ≤ 999999999 * 1000000000 := Nat.mul_le_mul (by omega) hM
    unfold mcarry
    omega
/-- How many limbs are left when noughts at the end are left off. -/
def trim (f : Nat → Nat) : Nat → Nat
  | 0 => 0
  | k + 1 => if f k = 0 then trim f k else k + 1

set_option maxRecDepth 100000 in
set_option maxHeartbeats 2000000 in
theorem mulD_any (n a ca M : Nat) (d : Nat → Nat) (w : World) (hn : n ≤ 1000000) (ha : Limbs w a n d) (la : a < w.heap.size) (hd : ∀ i, d i < 1000000000) (hM : M ≤ 1000000000) :
    Calls Tryd.prog 109 #[.slice (some ⟨a, 0, none⟩) n ca, .int .u64 M] w fun r w' => r = .returned (.slice (some ⟨w.heap.size, 0, none⟩) (trim (mulDig n d M) (n + 1)) (n + 1)) ∧ Own w' w.heap.size w.heap.size (n + 1) (mulDig n d M) ∧ Below w.heap.size w w' := by
  obtain ⟨i0, hi, hz0, hz1, hz2⟩ := info_parts info23
  go_enter Tryd.func109, Tryd.ntmps109
  go_wp2_with (at_make; refine wpList_make_full _ rfl _ _ 55 rfl w.heap.size 23 i0 (.int .u32 0) 1 Tryd.underlying55 hi hz0 hz1 _ _ _ _ (n + 1) rfl rfl (by first | rfl | omega) (by first | rfl | omega) (by rw [hz2]; omega) (by unfold maxLen; omega) (Nat.le_refl _) ?_; intro w1 hown hgrow)
  have O1 : Own w1 w.heap.size w.heap.size (n + 1) (fun _ => 0) := own_made hown (Nat.le_refl _) (hown.lt _ rfl).2
  have B1 : Below w.heap.size w w1 := (Below.refl _ _).grown hgrow (Nat.le_refl _) (by simp)
  clear hown hgrow
  go_loopw [6, 16] (fun c i wr => ∃ k : Nat, k ≤ n ∧ i = .int .i64 k ∧ c = .int .u64 (mcarry d M k : Nat) ∧ Own wr w.heap.size w.heap.size (n + 1) (fun j => if j < k then mulDig n d M j else 0) ∧ Below w.heap.size w wr) (fun _ i _ => n - (intOf i).toNat)
  case atStart => exact ⟨0, by omega, rfl, rfl, ⟨fun j hj => by simpa using O1.cell j hj, O1.free, O1.lo, O1.hi⟩, B1⟩
  case round =>
    obtain ⟨k, hk, rfl, rfl, OK, BK⟩ := hrel
    have cl := mcarry_le d M hd hM k
    obtain ⟨C, hC⟩ : ∃ C, mcarry d M k = C := ⟨_, rfl⟩
    rw [hC] at cl ⊢
    have HC : Hid (mcarry d M k = C) := hC
    clear hC
    by_cases hkN : k < n
    · have f0 := OK.free k
      have g0 : wr.cell? ⟨w.heap.size, k, none⟩ = some (.int .u32 0) := by have := OK.cell k (by omega); simpa using this
      have i0 : (0 : Int) ≤ (k : Int) := by omega
      have i1 : (k : Int) < ((n + 1 : Nat) : Int) := by omega
      have i2 : (k : Int) < (n : Int) := by omega
      have cd : wr.cell? ⟨a, k, none⟩ = some (.int .u32 (d k : Int)) := (BK.cell (p := ⟨a, k, none⟩) la).trans (ha k hkN)
      have dk := hd k
      obtain ⟨P, hP⟩ : ∃ P, d k * M = P := ⟨_, rfl⟩
      have pb : P ≤ 999999999000000000 := by rw [← hP]; exact Nat.mul_le_mul (by omega : d k ≤ 999999999) hM
      have HP : Hid (d k * M = P) := hP
      have hPI : (d k : Int) * (M : Int) = (P : Int) := by rw [← hP]; push_cast; rfl
      clear hP
      go_wp2
      go_roundw
      case rel => exact ⟨k + 1, by omega, by go_num, by have h1 := HC.out; have h2 := HP.out; simp only [mcarry, h1, h2]; first | rfl | go_num, OK.set' k (mulDig n d M k) _ (by have h1 := HC.out; have h2 := HP.out; simp only [mulDig, h1, h2, hkN, if_true]; omega) (by omega) (fun j hj => by by_cases e1 : j = k; subst e1; simp; rw [if_neg e1]; by_cases e2 : j < k; rw [if_pos e2, if_pos (by omega)]; rw [if_neg e2, if_neg (by omega)]), BK.setCell (Nat.le_refl _) _⟩
      case measure => simp [intOf]; omega
    · have hkk : k = n := by omega
      subst hkk
      have f0 := OK.free k
      have g0 : wr.cell? ⟨w.heap.size, k, none⟩ = some (.int .u32 0) := by have := OK.cell k (by omega); simpa using this
      have i0 : (0 : Int) ≤ (k : Int) := by omega
      have i1 : (k : Int) < ((k + 1 : Nat) : Int) := by omega
      go_wp2
      obtain ⟨V, hV⟩ : ∃ V, V = wr.setCell ⟨w.heap.size, k, none⟩ (.int .u32 (C : Int)) := ⟨_, rfl⟩
      have OV : Own V w.heap.size w.heap.size (k + 1) (mulDig k d M) := by
        rw [hV]
        exact OK.set' k C _ rfl (by omega) (fun j hj => by
          by_cases e1 : j = k
          · subst e1; rw [if_pos rfl]; unfold mulDig; rw [if_neg (by omega)]; exact HC.out
          · rw [if_neg e1, if_pos (by omega)])
      have BV : Below w.heap.size w V := by rw [hV]; exact BK.setCell (Nat.le_refl _) _
      rw [← hV]
      clear hV g0 f0 i0 i1
      obtain ⟨f, hf⟩ : ∃ f, f = mulDig k d M := ⟨_, rfl⟩
      rw [← hf] at OV
      have HF : Hid (f = mulDig k d M) := hf
      clear hf
      go_loop [9] (fun i => ∃ t : Nat, t ≤ k + 1 ∧ i = .int .i64 t ∧ Hid (trim f (k + 1) = trim f t)) (fun i => (intOf i).toNat)
      case atStart => exact ⟨k + 1, Nat.le_refl _, by go_num, rfl⟩
      case round =>
        obtain ⟨t, ht, rfl, HT⟩ := hrel
        rcases t with _ | t
        · have hr : trim f (k + 1) = 0 := HT.out
          have HR : Hid (trim f (k + 1) = 0) := hr
          clear hr
          go_wp2
          go_ret
          exact ⟨by rw [← HF.out, HR.out]; rfl, by rw [← HF.out]; exact OV, BV⟩
        · have c1 := OV.cell t (by omega)
          have i0 : (0 : Int) ≤ (t : Int) := by omega
          have i1 : (t : Int) < ((k + 1 : Nat) : Int) := by omega
          by_cases h0 : f t = 0
          · have HN : Hid (trim f (k + 1) = trim f t) := by show trim f (k + 1) = trim f t; rw [HT.out]; simp [trim, h0]
            rw [h0] at c1
            go_wp2
            go_round
            case rel => exact ⟨t, by omega, by first | rfl | go_num, HN⟩
            case measure => simp [intOf]
          · have HN : Hid (trim f (k + 1) = t + 1) := by show trim f (k + 1) = t + 1; rw [HT.out]; simp [trim, h0]
            have h0' : ((f t : Int) == 0) = false := by simp; omega
            have h0'' : ¬ (f t : Int) = 0 := by omega
            go_wp2
            go_ret
            exact ⟨by rw [← HF.out, HN.out]; rfl, by rw [← HF.out]; exact OV, BV⟩
end Go.Proofs.YtamoakodlmjbiaaDoor
