/- Numbers at a place: what the model asks there is what the program reads off the rest of the text; no Go text is walked here. -/
import Derived.Test.YtpildklndfgojaaDoorTokN
namespace Go.Proofs.YtpildklndfgojaaDoor.Tk
set_option linter.unusedVariables false
theorem cut_rest (s : ByteArray) (i n : Nat) (h : i + n ≤ s.size) : (s.extract i s.size).extract 0 n = s.extract i (i + n) := by
  apply ByteArray.ext
  apply Array.toList_inj.mp
  rw [ext_list]
  have e := ext_list (s.extract i s.size) 0 n
  rw [Nat.zero_add, rest_list, List.drop_zero] at e
  exact e
theorem numY_list (x : ByteArray) : (numY x).data.toList = x.data.toList.drop (dlen x.data.toList) := by unfold numY; exact rest_list x _
theorem numU_list (x : ByteArray) : (numU x).data.toList = x.data.toList.drop (dlen x.data.toList + 1) := by
  unfold numU
  rw [rest_list, numY_list, List.drop_drop]
theorem dlen_pos (l : List UInt8) (j : Nat) : 0 < dlen (l.drop j) ↔ ∃ c, l[j]? = some c ∧ isDig c = true := by
  have e : (l.drop j).head? = l[j]? := by simp
  rw [← e]
  cases h : l.drop j with
  | nil => simp [dlen]
  | cons b r =>
    rw [dlen]
    by_cases q : isDig b = true
    · simp [q]
    · simp [q]
theorem dot_iff (l : List UInt8) (j : Nat) : [46] = (l.drop j).take 1 ↔ l[j]? = some 46 := by
  have e : (l.drop j).head? = l[j]? := by simp
  rw [← e]
  cases h : l.drop j with
  | nil => simp
  | cons b r => simp [eq_comm]
theorem dig_at (s : ByteArray) (j : Nat) (h : j < s.size) : (∃ c, s.data.toList[j]? = some c ∧ isDig c = true) ↔ digB ((bt s j 0 : Nat) : Int) = true := by
  constructor
  · rintro ⟨c, hc, hd⟩
    rw [(at_bt s j c h).1 hc]
    have := (dig_iff c).1 hd
    unfold digB
    simp
    omega
  · intro hd
    have l : j < s.data.toList.length := by simpa using h
    refine ⟨s.data.toList[j], List.getElem?_eq_getElem l, ?_⟩
    have e := (at_bt s j _ h).1 (List.getElem?_eq_getElem l)
    rw [e] at hd
    unfold digB at hd
    simp only [decide_eq_true_eq] at hd
    exact (dig_iff _).2 (by omega)
theorem numF_at (s : ByteArray) (i j : Nat) (hi : i ≤ s.size) (hj : i + dlen (s.data.toList.drop i) = j) : numF (s.extract i s.size) = true ↔ (j + 1 < s.size ∧ bt s j 0 = 46 ∧ digB ((bt s (j + 1) 0 : Nat) : Int) = true) := by
  have ls : s.data.toList.length = s.size := by simp
  unfold numF
  rw [Bool.and_eq_true, decide_eq_true_eq, pre_iff, numU_list, numY_list, rest_list, List.drop_drop, List.drop_drop, hj, show i + (dlen (s.data.toList.drop i) + 1) = j + 1 from by omega, dlen_pos]
  show [46] = List.take 1 (List.drop j s.data.toList) ∧ _ ↔ _
  rw [dot_iff]
  constructor
  · rintro ⟨h1, h2⟩
    obtain ⟨c, hc, hd⟩ := h2
    have l2 : j + 1 < s.size := by rw [← ls]; exact (List.getElem?_eq_some_iff.1 hc).1
    have a := (at_bt s j 46 (by omega)).1 h1
    exact ⟨l2, by have : ((46 : UInt8).toNat : Int) = 46 := rfl; omega, (dig_at s (j + 1) l2).1 ⟨c, hc, hd⟩⟩
  · rintro ⟨l2, h1, h2⟩
    exact ⟨(at_bt s j 46 (by omega)).2 (by have : ((46 : UInt8).toNat : Int) = 46 := rfl; omega), (dig_at s (j + 1) l2).2 h2⟩
/-- Where the number at a place ends, as the model reckons it. -/
theorem numL_at (s : ByteArray) (i j : Nat) (hi : i ≤ s.size) (hj : i + dlen (s.data.toList.drop i) = j) : i + numL (s.extract i s.size) = if numF (s.extract i s.size) = true then j + 1 + dlen (s.data.toList.drop (j + 1)) else j := by
  unfold numL
  rw [numU_list, rest_list, List.drop_drop, show i + (dlen (s.data.toList.drop i) + 1) = j + 1 from by omega]
  split <;> omega
theorem numL_le (x : ByteArray) : numL x ≤ x.size := by
  have lx : x.data.toList.length = x.size := by simp
  have d := dlen_le x.data.toList
  have u := dlen_le (numU x).data.toList
  rw [numU_list, List.length_drop] at u
  unfold numL
  rw [numU_list]
  split
  · rename_i h
    unfold numF at h
    rw [Bool.and_eq_true, decide_eq_true_eq, numU_list] at h
    omega
  · omega
end Go.Proofs.YtpildklndfgojaaDoor.Tk
