/- The contract of the library's Len64: it returns how many bits a word of 64 bits has; no conditions but that it is one. -/
import Derived.Test.YtoloenkcfpfgcaaDoorBase
import Derived.Lib.BitFns
namespace Go.Proofs.YtoloenkcfpfgcaaDoor
open Go.ChangeShapes Go.WideShapes Go.ChangeAt Go.RowKit

set_option maxRecDepth 100000 in
theorem tab_size : Lib.len8tab.size = 256 := by decide +kernel
theorem tab_get (i : Nat) (h : i < Lib.len8tab.size) : (Lib.len8tab[i]).toNat = Lib.bitLen i := by
  have all : ∀ j : Fin 256, (Lib.len8tab[j.val]'(by rw [tab_size]; exact j.isLt)).toNat = Lib.bitLen j.val := by decide +kernel
  exact all ⟨i, by rw [tab_size] at h; exact h⟩
theorem wrap_small (k b : Nat) (h : k ≤ 56) (l : b ≤ 8) : wrap64 ((k : Int) + wrap64 (b : Int)) = (k : Int) + (b : Int) := by
  have w1 : wrap64 (b : Int) = b := by unfold wrap64; omega
  rw [w1]; unfold wrap64; omega
theorem len_close (x y : Int) (k : Nat) (hk : k ≤ 56) (h0 : 0 ≤ x) (h1 : x < 18446744073709551616) (hy : y = x / 2 ^ k) (hx : k = 0 ∨ (2 : Int) ^ k ≤ x) (y1 : y < 256) (h : y.toNat < Lib.len8tab.size) :
    wrap64 ((k : Int) + wrap64 ((Lib.len8tab[y.toNat]).toNat : Nat)) = (Lib.bitLen x.toNat : Int) := by
  have g := tab_get y.toNat h
  have y0 : 0 ≤ y := by rw [hy]; exact Int.ediv_nonneg h0 (Int.le_of_lt (Int.pow_pos (by decide)))
  have l := Lib.bitLen_le8' y y0 (by omega)
  rw [g, wrap_small k _ hk l]
  obtain ⟨n, rfl⟩ := Int.eq_ofNat_of_zero_le h0
  have e : y.toNat = n / 2 ^ k := by
    have e2 : y = ((n / 2 ^ k : Nat) : Int) := by rw [hy]; simp
    rw [e2]; exact Int.toNat_natCast _
  rw [e, Int.toNat_natCast]
  rcases hx with rfl | hx
  · simp
  · have hx' : 2 ^ k ≤ n := by
      have : ((2 ^ k : Nat) : Int) ≤ (n : Int) := by simpa using hx
      omega
    rw [Lib.bitLen_shift k n hx' (by omega)]
    exact (Int.natCast_add _ _).symm
theorem len_close0 (x : Int) (h0 : 0 ≤ x) (y1 : x < 256) (h : x.toNat < Lib.len8tab.size) :
    wrap64 (wrap64 ((Lib.len8tab[x.toNat]).toNat : Nat)) = (Lib.bitLen x.toNat : Int) := by
  have := len_close x x 0 (by decide) h0 (by omega) (by simp) (Or.inl rfl) y1 h
  simpa using this
set_option maxHeartbeats 1000000 in
set_option maxRecDepth 100000 in
theorem len64_any (x : Int) (h0 : 0 ≤ x) (h1 : x < 18446744073709551616) (w : World) :
    Calls Tryd.prog 74 #[.int .u64 x] w fun e w' => e = .returned (.int .i64 (Lib.bitLen x.toNat)) ∧ w' = w := by
  have hsz := tab_size
  go_enter Tryd.func74, Tryd.ntmps74
  go_wp2
  all_goals try (exfalso; omega)
  all_goals (go_ret; refine ⟨congrArg Ending.returned (congrArg (Value.int IntKind.i64) ?_), rfl⟩)
  all_goals first
    | exact len_close x (x / 4294967296 / 65536 / 256) 56 (by decide) h0 h1 (by omega) (Or.inr (by simp; omega)) (by omega) _
    | exact len_close x (x / 4294967296 / 65536) 48 (by decide) h0 h1 (by omega) (Or.inr (by simp; omega)) (by omega) _
    | exact len_close x (x / 4294967296 / 256) 40 (by decide) h0 h1 (by omega) (Or.inr (by simp; omega)) (by omega) _
    | exact len_close x (x / 4294967296) 32 (by decide) h0 h1 (by omega) (Or.inr (by simp; omega)) (by omega) _
    | exact len_close x (x / 65536 / 256) 24 (by decide) h0 h1 (by omega) (Or.inr (by simp; omega)) (by omega) _
    | exact len_close x (x / 65536) 16 (by decide) h0 h1 (by omega) (Or.inr (by simp; omega)) (by omega) _
    | exact len_close x (x / 256) 8 (by decide) h0 h1 (by omega) (Or.inr (by simp; omega)) (by omega) _
    | exact len_close0 x h0 (by omega) _
end Go.Proofs.YtoloenkcfpfgcaaDoor
