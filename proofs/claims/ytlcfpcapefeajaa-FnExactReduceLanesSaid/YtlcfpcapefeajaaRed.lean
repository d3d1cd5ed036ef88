/- The masks' bits in plain arithmetic, and the contract of reducePair of the program. -/
import Derived.Test.YtlcfpcapefeajaaSum
namespace Go.Proofs.Ytlcfpcapefeajaa
open Go.ChangeShapes Go.WideShapes Go.ChangeAt Go.RowKit
def red (op a b : Int) : Int :=
  if op = 1 then (if wrap32 b < wrap32 a then b else a) else if op = 2 then (if wrap32 a < wrap32 b then b else a) else if op = 3 then bits .and .u32 a b else if op = 4 then bits .or .u32 a b else bits .xor .u32 a b
theorem wrap32_back (a : Int) (h0 : 0 ≤ a) (h1 : a < 4294967296) : wrap32 a % 4294967296 = a := by
  simp only [wrap32]; omega
def inW (a : Int) : Prop := 0 ≤ a ∧ a < 4294967296
theorem red_in (op a b : Int) (ho : op = 1 ∨ op = 2) (ha : inW a) (hb : inW b) : inW (red op a b) := by
  unfold red
  rcases ho with rfl | rfl
  · rw [if_pos rfl]; split <;> assumption
  · rw [if_neg (by decide), if_pos rfl]; split <;> assumption
set_option maxHeartbeats 1000000 in
theorem pair34 (a b op : Int) (h1 : 1 ≤ op) (h5 : op ≤ 5) (hw : op ≤ 2 → inW a ∧ inW b) (w : World) :
    Calls Try.prog 34 #[.int .u32 a, .int .u32 b, .int .i64 op] w fun e w' => e = .returned (.int .u32 (red op a b)) ∧ w' = w := by
  rcases (show op = 1 ∨ op = 2 ∨ op = 3 ∨ op = 4 ∨ op = 5 by omega) with rfl | rfl | rfl | rfl | rfl
  · obtain ⟨⟨a0, a1⟩, b0, b1⟩ := hw (by decide)
    have wa := wrap32_back a a0 a1
    have wb := wrap32_back b b0 b1
    clear hw h1 h5
    by_cases hl : wrap32 b < wrap32 a
    · have e : red 1 a b = b := by unfold red; rw [if_pos rfl, if_pos hl]
      go_enter Try.func34, Try.ntmps34
      go_wp2
      go_ret
      exact ⟨by first | rfl | (rw [e]; rfl) | (rw [e]; simp [wb]), rfl⟩
    · have e : red 1 a b = a := by unfold red; rw [if_pos rfl, if_neg hl]
      go_enter Try.func34, Try.ntmps34
      go_wp2
      go_ret
      exact ⟨by first | rfl | (rw [e]; rfl) | (rw [e]; simp [wb]), rfl⟩
  · obtain ⟨⟨a0, a1⟩, b0, b1⟩ := hw (by decide)
    have wa := wrap32_back a a0 a1
    have wb := wrap32_back b b0 b1
    clear hw h1 h5
    by_cases hl : wrap32 a < wrap32 b
    · have e : red 2 a b = b := by unfold red; rw [if_neg (by decide), if_pos rfl, if_pos hl]
      go_enter Try.func34, Try.ntmps34
      go_wp2
      go_ret
      exact ⟨by first | rfl | (rw [e]; rfl) | (rw [e]; simp [wb]), rfl⟩
    · have e : red 2 a b = a := by unfold red; rw [if_neg (by decide), if_pos rfl, if_neg hl]
      go_enter Try.func34, Try.ntmps34
      go_wp2
      go_ret
      exact ⟨by first | rfl | (rw [e]; rfl) | (rw [e]; simp [wb]), rfl⟩
  all_goals
    clear hw h1 h5
    go_enter Try.func34, Try.ntmps34
    go_wp2
    go_ret
    exact ⟨rfl, rfl⟩
theorem onM_iff (m : Int) (i : Nat) (h0 : 0 ≤ m) (h1 : m < 65536) : onM m i = decide (m / 2 ^ i % 2 = 1) := by
  unfold onM
  obtain ⟨x, hx⟩ : ∃ x, m / 2 ^ i = x := ⟨_, rfl⟩
  have x0 : 0 ≤ x := by rw [← hx]; exact Int.ediv_nonneg h0 (Int.le_of_lt (Int.pow_pos (by decide)))
  have x1 : x ≤ m := by rw [← hx]; exact Int.ediv_le_self _ h0
  rw [hx]
  have x2 : x < 65536 := by omega
  clear hx h0 h1 x1
  have hb : bits .and .i64 x 1 = x % 2 := by
    obtain ⟨k, rfl⟩ := Int.eq_ofNat_of_zero_le x0
    have hn : (BitVec.ofInt IntKind.i64.bits (k : Int) &&& BitVec.ofInt IntKind.i64.bits 1).toNat = k % 2 := by
      rw [BitVec.toNat_and, BitVec.toNat_ofInt, BitVec.toNat_ofInt]
      have e1 : ((k : Int) % ((2 ^ IntKind.i64.bits : Nat) : Int)).toNat = k := by
        show ((k : Int) % 18446744073709551616).toNat = k
        omega
      have e2 : ((1 : Int) % ((2 ^ IntKind.i64.bits : Nat) : Int)).toNat = 1 := by rfl
      rw [e1, e2, Nat.and_one_is_mod]
    show IntKind.i64.wrap ((BitVec.ofInt IntKind.i64.bits (k : Int) &&& BitVec.ofInt IntKind.i64.bits 1).toNat : Int) = (k : Int) % 2
    rw [hn, IntKind.wrap_i64]
    omega
  rw [hb, Bool.eq_iff_iff]
  simp
theorem pow2_le {a b : Nat} (h : a ≤ b) : (2 : Int) ^ a ≤ 2 ^ b := by
  have e : ∀ c : Nat, (2 : Int) ^ c = ((2 ^ c : Nat) : Int) := fun c => by simp
  rw [e, e]
  exact Int.ofNat_le.2 (Nat.pow_le_pow_right (by decide) h)
theorem nat_zero : ∀ (N k : Nat), k < 2 ^ N → (∀ i, i < N → ¬ k / 2 ^ i % 2 = 1) → k = 0
  | 0, k, h, _ => by simpa using h
  | N + 1, k, h, hi => by
    have h0 := hi 0 (by omega)
    simp at h0
    have h1 : k / 2 = 0 := nat_zero N (k / 2) (by rw [Nat.pow_succ] at h; omega) (fun i hN => by
      have := hi (i + 1) (by omega)
      rw [Nat.pow_succ, Nat.mul_comm, ← Nat.div_div_eq_div_mul] at this
      exact this)
    omega
theorem zero_of_off (m : Int) (h0 : 0 ≤ m) (h1 : m < 65536) (h : ∀ i, i < 16 → onM m i = false) : m = 0 := by
  obtain ⟨k, rfl⟩ := Int.eq_ofNat_of_zero_le h0
  have := nat_zero 16 k (by show k < 65536; omega) (fun i hi hh => by
    have := h i hi
    rw [onM_iff _ i h0 h1] at this
    simp only [decide_eq_false_iff_not] at this
    apply this
    have e : ((k : Int) / 2 ^ i % 2) = ((k / 2 ^ i % 2 : Nat) : Int) := by simp
    rw [e, hh]; rfl)
  rw [this]; rfl
theorem off_of_nil (d : Nat → Int) (m : Int) : ∀ n, pk d m n = [] → ∀ i, i < n → onM m i = false
  | 0, _, i, hi => by omega
  | n + 1, h, i, hi => by
    cases ho : onM m n
    · rw [pk_off d m n ho] at h
      by_cases e : i = n
      · rw [e]; exact ho
      · exact off_of_nil d m n h i (by omega)
    · rw [pk_on d m n ho] at h; simp at h
theorem good_parts {n : Nat} {m : Int} (h : goodM n m = true) : 0 ≤ m ∧ m < 2 ^ n ∧ m < 65536 := by
  unfold goodM at h
  simp only [decide_eq_true_eq, Int.toNat_natCast] at h
  refine ⟨h.2.2.1, h.2.2.2, Int.lt_of_lt_of_le h.2.2.2 ?_⟩
  have : (2 : Int) ^ n ≤ 2 ^ 16 := pow2_le (by omega)
  simpa using this
theorem pk_some (d : Nat → Int) {n : Nat} {m : Int} (hg : goodM n m = true) (hm : m ≠ 0) : pk d m n ≠ [] := by
  intro h
  obtain ⟨h0, hn, h1⟩ := good_parts hg
  refine hm (zero_of_off m h0 h1 (fun i _ => ?_))
  by_cases hi : i < n
  · exact off_of_nil d m n h i hi
  · rw [onM_iff m i h0 h1]
    have : m / 2 ^ i = 0 := Int.ediv_eq_zero_of_lt h0 (Int.lt_of_lt_of_le hn (pow2_le (by omega)))
    rw [this]; rfl
theorem on_zero (i : Nat) : onM 0 i = false := by
  rw [onM_iff 0 i (by decide) (by decide)]; simp
theorem pk_in (d : Nat → Int) (m : Int) (hd : ∀ i, inW (d i)) : ∀ n, ∀ x ∈ pk d m n, inW x
  | 0, x, hx => by simp [pk] at hx
  | n + 1, x, hx => by
    cases ho : onM m n
    · rw [pk_off d m n ho] at hx; exact pk_in d m hd n x hx
    · rw [pk_on d m n ho] at hx
      rcases List.mem_append.1 hx with h | h
      · exact pk_in d m hd n x h
      · simp at h; rw [h]; exact hd n
end Go.Proofs.Ytlcfpcapefeajaa
