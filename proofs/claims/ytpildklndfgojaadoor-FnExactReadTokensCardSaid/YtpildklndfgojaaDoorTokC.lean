/- The rest of a line at a place: where the model's loop of a comment ends, and what the program reads off the rest of the text; blanks. -/
import Derived.Test.YtpildklndfgojaaDoorTokL
import Derived.Lib.IndexLaws
namespace Go.Proofs.YtpildklndfgojaaDoor.Tk
set_option linter.unusedVariables false
theorem line_le (l : List UInt8) : lineL l ≤ l.length := by
  unfold lineL
  split
  · rename_i h
    obtain ⟨o, ho⟩ : ∃ o : Nat, Lib.indexByte l 10 = o := ⟨(Lib.indexByte l 10).toNat, by omega⟩
    have a := (Lib.indexByte_some ho).1
    have b := (List.getElem?_eq_some_iff.1 a).1
    omega
  · omega
/-- The first place from i on where a line ends. -/
theorem line_at (s : ByteArray) (i j : Nat) (hij : i ≤ j) (hj : j ≤ s.size) (h : ∀ k, i ≤ k → k < j → bt s k 0 ≠ 10) (he : j = s.size ∨ bt s j 0 = 10) : i + lineL (s.data.toList.drop i) = j := by
  have ls : s.data.toList.length = s.size := by simp
  have ten : ((10 : UInt8).toNat : Int) = 10 := rfl
  have before : ∀ k, k < j - i → (s.data.toList.drop i)[k]? ≠ some 10 := by
    intro k hk q
    rw [List.getElem?_drop] at q
    have := (at_bt s (i + k) 10 (by omega)).1 q
    exact h (i + k) (by omega) (by omega) (by omega)
  unfold lineL
  by_cases c : 0 ≤ Lib.indexByte (s.data.toList.drop i) 10
  · rw [if_pos c]
    obtain ⟨o, ho⟩ : ∃ o : Nat, Lib.indexByte (s.data.toList.drop i) 10 = o := ⟨(Lib.indexByte (s.data.toList.drop i) 10).toNat, by omega⟩
    obtain ⟨a, b⟩ := Lib.indexByte_some ho
    have lo := (List.getElem?_eq_some_iff.1 a).1
    rw [List.length_drop, ls] at lo
    have o1 : ¬ o < j - i := fun q => before o q a
    have o2 : ¬ j - i < o := by
      intro q
      rcases he with e | e
      · omega
      · refine b (j - i) q ?_
        rw [List.getElem?_drop, show i + (j - i) = j from by omega]
        exact (at_bt s j 10 (by omega)).2 (by omega)
    rw [ho]
    omega
  · rw [if_neg c, List.length_drop, ls]
    have m := Lib.indexByte_ge (s.data.toList.drop i) 10
    have e1 : Lib.indexByte (s.data.toList.drop i) 10 = -1 := by omega
    have n := Lib.indexByte_none e1
    rcases he with e | e
    · omega
    · by_cases z : j = s.size
      · omega
      · exfalso
        refine n (j - i) ?_
        rw [List.getElem?_drop, show i + (j - i) = j from by omega]
        exact (at_bt s j 10 (by omega)).2 (by omega)
theorem line_pos (s : ByteArray) (i : Nat) (hi : i < s.size) (h : bt s i 0 ≠ 10) : 0 < lineL (s.data.toList.drop i) := by
  have ls : s.data.toList.length = s.size := by simp
  have ten : ((10 : UInt8).toNat : Int) = 10 := rfl
  unfold lineL
  by_cases c : 0 ≤ Lib.indexByte (s.data.toList.drop i) 10
  · rw [if_pos c]
    obtain ⟨o, ho⟩ : ∃ o : Nat, Lib.indexByte (s.data.toList.drop i) 10 = o := ⟨(Lib.indexByte (s.data.toList.drop i) 10).toNat, by omega⟩
    obtain ⟨a, b⟩ := Lib.indexByte_some ho
    rw [ho]
    rcases Nat.eq_zero_or_pos o with rfl | p
    · exfalso
      rw [List.getElem?_drop] at a
      have := (at_bt s i 10 hi).1 a
      exact h (by omega)
    · omega
  · rw [if_neg c, List.length_drop, ls]
    omega
/-- A place is passed over by at most the rest of the text. -/
theorem skip_le (s : ByteArray) (i : Nat) (hi : i < s.size) : i + skipN s i ≤ s.size := by
  have ls : s.data.toList.length = s.size := by simp
  unfold skipN
  split
  · omega
  · split
    · have := line_le (s.data.toList.drop i)
      rw [List.length_drop, ls] at this
      omega
    · omega
theorem blank_all : ∀ n : Nat, n < 256 → decide (0 ≤ Lib.indexByte [32, 9, 10] n.toUInt8) = decide (n = 32 ∨ n = 9 ∨ n = 10) := by decide +kernel
theorem digit_all : ∀ n : Nat, n < 256 → decide (0 ≤ Lib.indexByte [48, 49, 50, 51, 52, 53, 54, 55, 56, 57] n.toUInt8) = digB (n : Int) := by decide +kernel
theorem two_slash (s : ByteArray) (i : Nat) (hi : i ≤ s.size) : preB (s.extract i s.size) ⟨#[47, 47]⟩ = decide (i + 1 < s.size ∧ bt s i 0 = 47 ∧ bt s i 1 = 47) := by
  have ls : s.data.toList.length = s.size := by simp
  have c47 : ((47 : UInt8).toNat : Int) = 47 := rfl
  rw [Bool.eq_iff_iff, pre_iff, decide_eq_true_eq, rest_list]
  show [47, 47] = List.take 2 (List.drop i s.data.toList) ↔ _
  have b1 : bt s i 1 = bt s (i + 1) 0 := rfl
  rw [b1]
  have g0 : (List.drop i s.data.toList)[0]? = s.data.toList[i]? := by rw [List.getElem?_drop]; rfl
  have g1 : (List.drop i s.data.toList)[1]? = s.data.toList[i + 1]? := by rw [List.getElem?_drop]
  constructor
  · intro h
    cases hd : List.drop i s.data.toList with
    | nil => rw [hd] at h; simp at h
    | cons a r =>
      cases r with
      | nil => rw [hd] at h; simp at h
      | cons b r =>
        rw [hd] at h g0 g1
        simp at h
        obtain ⟨rfl, rfl⟩ := h
        have l := congrArg List.length hd
        rw [List.length_drop, ls] at l
        simp at l
        have e0 := (at_bt s i 47 (by omega)).1 g0.symm
        have e1 := (at_bt s (i + 1) 47 (by omega)).1 g1.symm
        exact ⟨by omega, by omega, by omega⟩
  · rintro ⟨l, h0, h1⟩
    have e0 := (at_bt s i 47 (by omega)).2 (by omega)
    have e1 := (at_bt s (i + 1) 47 (by omega)).2 (by omega)
    rw [← g0] at e0
    rw [← g1] at e1
    cases hd : List.drop i s.data.toList with
    | nil => rw [hd] at e0; simp at e0
    | cons a r =>
      cases r with
      | nil => rw [hd] at e1; simp at e1
      | cons b r =>
        rw [hd] at e0 e1
        simp at e0 e1
        subst e0 e1
        rfl
end Go.Proofs.YtpildklndfgojaaDoor.Tk
