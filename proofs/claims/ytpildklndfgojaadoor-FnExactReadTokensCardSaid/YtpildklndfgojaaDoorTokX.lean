/- Signs: readSign's last one that fits and l3Sign's longest one are the same. -/
import Derived.Test.YtpildklndfgojaaDoorTokH
namespace Go.Proofs.YtpildklndfgojaaDoor.Tk
open Go.ChangeShapes Go.WideShapes Go.ChangeAt Go.RowKit
set_option linter.unusedVariables false
/-- How long the last one of the first k signs with which a text begins is. -/
def signW (x : ByteArray) : Nat → Nat
  | 0 => 0
  | k + 1 => if preB x (textAt signsL k) = true then (textAt signsL k).size else signW x k
theorem sign_size : ∀ k, k < 30 → (textAt signsL k).size = 1 ∨ (textAt signsL k).size = 2 := by decide
theorem sign_order : ∀ k, k < 30 → ∀ q, q < 30 → (!((textAt signsL k).size == 2 && (textAt signsL q).size == 1 && ((textAt signsL k).data.toList.head? == (textAt signsL q).data.toList.head?)) || decide (q < k)) = true := by decide +kernel
theorem pre_iff (x p : ByteArray) : preB x p = true ↔ p.data.toList = x.data.toList.take p.size := by
  have e : (x.extract 0 p.size).data.toList = x.data.toList.take p.size := by simp
  have lp : p.data.toList.length = p.size := by simp
  have lx : x.data.toList.length = x.size := by simp
  unfold preB
  by_cases h : p.size ≤ x.size
  · rw [if_pos h, ByteArray.toList_eq, ByteArray.toList_eq, e]
    constructor
    · intro q; exact (eq_of_beq q).symm
    · intro q; rw [← q]; simp
  · rw [if_neg h]
    constructor
    · intro q; cases q
    · intro q
      have := congrArg List.length q
      rw [List.length_take, lp, lx] at this
      omega
theorem isIn_some (f : Nat → ByteArray) (s : ByteArray) : ∀ n, isIn f s n = true → ∃ k, k < n ∧ f k = s
  | 0, h => by simp [isIn] at h
  | n + 1, h => by
    by_cases e : f n = s
    · exact ⟨n, by omega, e⟩
    · have h2 : isIn f s n = true := by simpa [isIn, e] using h
      obtain ⟨k, hk, hs⟩ := isIn_some f s n h2
      exact ⟨k, by omega, hs⟩
theorem signW_two (x : ByteArray) (k : Nat) (hk : k < 30) (h2 : (textAt signsL k).size = 2) (hp : preB x (textAt signsL k) = true) : ∀ n, n ≤ 30 → k < n → signW x n = 2
  | 0, _, h => by omega
  | n + 1, hn, h => by
    rw [signW]
    by_cases q : preB x (textAt signsL n) = true
    · rw [if_pos q]
      rcases sign_size n (by omega) with s1 | s2
      · exfalso
        have a := (pre_iff _ _).1 hp
        have b := (pre_iff _ _).1 q
        rw [h2] at a
        rw [s1] at b
        have hd : (textAt signsL k).data.toList.head? = (textAt signsL n).data.toList.head? := by
          rw [a, b]
          cases x.data.toList <;> simp
        have o := sign_order k hk n (by omega)
        rw [h2, s1, hd] at o
        simp at o
        by_cases e : n = k
        · subst e; omega
        · omega
      · exact s2
    · rw [if_neg q]
      have e : n ≠ k := fun e => q (by rw [e]; exact hp)
      exact signW_two x k hk h2 hp n (by omega) (by omega)
theorem signW_one (x : ByteArray) (h2 : ∀ k, k < 30 → (textAt signsL k).size = 2 → preB x (textAt signsL k) = false) (k : Nat) (hk : k < 30) (hp : preB x (textAt signsL k) = true) : ∀ n, n ≤ 30 → k < n → signW x n = 1
  | 0, _, h => by omega
  | n + 1, hn, h => by
    rw [signW]
    by_cases q : preB x (textAt signsL n) = true
    · rw [if_pos q]
      rcases sign_size n (by omega) with s1 | s2
      · exact s1
      · rw [h2 n (by omega) s2] at q; cases q
    · rw [if_neg q]
      have e : n ≠ k := fun e => q (by rw [e]; exact hp)
      exact signW_one x h2 k hk hp n (by omega) (by omega)
theorem signW_none (x : ByteArray) (h : ∀ k, k < 30 → preB x (textAt signsL k) = false) : ∀ n, n ≤ 30 → signW x n = 0
  | 0, _ => rfl
  | n + 1, hn => by
    rw [signW, if_neg (by rw [h n (by omega)]; decide)]
    exact signW_none x h n (by omega)
/-- How long the longest sign at a place is. -/
def signN (s : ByteArray) (i : Nat) : Nat :=
  if i + 2 ≤ s.size ∧ isIn (textAt signsL) (s.extract i (i + 2)) 30 = true then 2 else if i + 1 ≤ s.size ∧ isIn (textAt signsL) (s.extract i (i + 1)) 30 = true then 1 else 0
theorem ext_list (s : ByteArray) (i m : Nat) : (s.extract i (i + m)).data.toList = (s.data.toList.drop i).take m := by simp
theorem sign_here (s : ByteArray) (i m k : Nat) (hi : i + m ≤ s.size) (h : textAt signsL k = s.extract i (i + m)) : preB (s.extract i s.size) (textAt signsL k) = true ∧ (textAt signsL k).size = m := by
  have z : (textAt signsL k).size = m := by rw [h]; simp; omega
  refine ⟨(pre_iff _ _).2 ?_, z⟩
  rw [z, h, rest_list, ext_list]
theorem sign_there (s : ByteArray) (i m k : Nat) (hi : i ≤ s.size) (hp : preB (s.extract i s.size) (textAt signsL k) = true) (hz : (textAt signsL k).size = m) : i + m ≤ s.size ∧ textAt signsL k = s.extract i (i + m) := by
  have a := (pre_iff _ _).1 hp
  rw [hz, rest_list] at a
  have l := congrArg List.length a
  have lp : (textAt signsL k).data.toList.length = (textAt signsL k).size := by simp
  have lx : s.data.toList.length = s.size := by simp
  rw [List.length_take, List.length_drop, lp, lx, hz] at l
  exact ⟨by omega, ByteArray.ext (Array.toList_inj.mp (by rw [ext_list]; exact a))⟩
set_option maxHeartbeats 1000000 in
set_option maxRecDepth 100000 in
theorem sign67 (x : ByteArray) (w : World) (hs : x.size ≤ 1048576) : Calls Tryd.prog 67 #[.string x] w fun e w' => e = .returned (.tuple #[.int .i64 (if signW x 30 = 0 then 0 else 4), .int .i64 (signW x 30 : Nat), .int .i64 (if signW x 30 = 0 then 2 else 0)]) ∧ Below w.heap.size w w' := by
  obtain ⟨N, hN⟩ : ∃ N, signW x 30 = N := ⟨_, rfl⟩
  rw [hN]
  have HN : Hid (signW x 30 = N) := hN
  clear hN
  go_enter Tryd.func67, Tryd.ntmps67
  go_wp2_with (go_at_call 106; refine (lit12 w).mono ?_; rintro e w1 ⟨rfl, S1, B1⟩; have HS : Hid (Own w1 w.heap.size 30 (fun i => .string (textAt signsL i))) := S1; clear S1)
  go_loop [5, 10] (fun l i => ∃ k : Nat, k ≤ 30 ∧ i = .int .i64 k ∧ l = .int .i64 (signW x k : Nat)) (fun _ i => 30 - (intOf i).toNat)
  case atStart => exact ⟨0, by omega, rfl, rfl⟩
  case round =>
    obtain ⟨k, hk, rfl, rfl⟩ := hrel
    by_cases hkn : k < 30
    · have i0 : (0 : Int) ≤ (k : Int) := by omega
      have i1 : (k : Int) < 30 := by omega
      have c0 := HS.out.cell k hkn
      obtain ⟨y, hy⟩ : ∃ y, textAt signsL k = y := ⟨_, rfl⟩
      obtain ⟨V, hV⟩ : ∃ V, signW x k = V := ⟨_, rfl⟩
      have hp := prefix26 x y w1
      have z : y.size ≤ 2 := by rw [← hy]; rcases sign_size k hkn with z | z <;> omega
      have z' : (y.size : Int) ≤ 2 := by omega
      obtain ⟨P, hP⟩ : ∃ P, preB x y = P := ⟨_, rfl⟩
      have HW : Hid (signW x (k + 1) = if P = true then y.size else V) := by show signW x (k + 1) = if P = true then y.size else V; rw [signW, hy, hP, hV]
      rw [hy] at c0
      rw [hP] at hp
      rw [hV]
      have HP : Hid (Calls Tryd.prog 62 #[.string x, .string y] w1 fun e w' => e = .returned (.bool P) ∧ w' = w1) := hp
      clear hy hV hP hp
      cases P
      all_goals
        go_wp2_with (go_at_call 62; refine (Hid.out HP).mono ?_; rintro e w2 ⟨rfl, hw⟩; subst w2)
        exact ⟨⟨k + 1, by omega, by go_num, by rw [HW.out]; rfl⟩, by simp [intOf]; omega⟩
    · have hkk : k = 30 := by omega
      subst hkk
      rw [HN.out]
      by_cases n0 : N = 0
      · subst n0
        go_wp2
        go_ret3
        exact ⟨rfl, B1⟩
      · have n0' : ¬ (N : Int) = 0 := by omega
        go_wp2
        go_ret3
        exact ⟨by simp, B1⟩
theorem sign_both (s : ByteArray) (i : Nat) (hi : i ≤ s.size) : signN s i = signW (s.extract i s.size) 30 := by
  unfold signN
  by_cases c2 : i + 2 ≤ s.size ∧ isIn (textAt signsL) (s.extract i (i + 2)) 30 = true
  · rw [if_pos c2]
    obtain ⟨k, hk, e⟩ := isIn_some _ _ _ c2.2
    obtain ⟨p, z⟩ := sign_here s i 2 k c2.1 e
    exact (signW_two _ k hk z p 30 (by omega) hk).symm
  · rw [if_neg c2]
    have n2 : ∀ k, k < 30 → (textAt signsL k).size = 2 → preB (s.extract i s.size) (textAt signsL k) = false := by
      intro k hk z
      by_cases q : preB (s.extract i s.size) (textAt signsL k) = true
      · obtain ⟨a, b⟩ := sign_there s i 2 k hi q z
        exact absurd ⟨a, isIn_true _ _ k b 30 hk⟩ c2
      · simpa using q
    by_cases c1 : i + 1 ≤ s.size ∧ isIn (textAt signsL) (s.extract i (i + 1)) 30 = true
    · rw [if_pos c1]
      obtain ⟨k, hk, e⟩ := isIn_some _ _ _ c1.2
      obtain ⟨p, z⟩ := sign_here s i 1 k c1.1 e
      exact (signW_one _ n2 k hk p 30 (by omega) hk).symm
    · rw [if_neg c1]
      refine (signW_none _ (fun k hk => ?_) 30 (by omega)).symm
      rcases sign_size k hk with z | z
      · by_cases q : preB (s.extract i s.size) (textAt signsL k) = true
        · obtain ⟨a, b⟩ := sign_there s i 1 k hi q z
          exact absurd ⟨a, isIn_true _ _ k b 30 hk⟩ c1
        · simpa using q
      · exact n2 k hk z
theorem ext_none (s : ByteArray) (i : Nat) : s.extract i (i + 0) = ⟨#[]⟩ := by
  apply ByteArray.ext
  apply Array.toList_inj.mp
  rw [ext_list]
  rfl
end Go.Proofs.YtpildklndfgojaaDoor.Tk
