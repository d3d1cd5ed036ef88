/- The tokens of a text, as both programs read them, told without a program: which token stands at a place, and the list of all; a row of them in memory. -/
import Derived.Test.YtpildklndfgojaaDoorTokP
import Derived.Test.YtpildklndfgojaaDoorTokY
namespace Go.Proofs.YtpildklndfgojaaDoor.Tk
open Go.ChangeShapes Go.WideShapes Go.ChangeAt Go.RowKit
set_option linter.unusedVariables false
/-- Kind, text and place of a token. -/
abbrev Tok := Int × ByteArray × Nat
def cellsT : List Tok → List Value
  | [] => []
  | t :: r => .int .i64 t.1 :: .string t.2.1 :: .int .i64 (t.2.2 : Nat) :: cellsT r
theorem cellsT_len : ∀ l : List Tok, (cellsT l).length = l.length * 3
  | [] => rfl
  | t :: r => by rw [cellsT]; simp [cellsT_len r]; omega
theorem cellsT_app : ∀ (l m : List Tok), cellsT (l ++ m) = cellsT l ++ cellsT m
  | [], m => rfl
  | t :: r, m => by simp [cellsT, cellsT_app r m]
def tkK (l : List Tok) (i : Nat) : Int := (l.getD i (0, ⟨#[]⟩, 0)).1
def tkT (l : List Tok) (i : Nat) : ByteArray := (l.getD i (0, ⟨#[]⟩, 0)).2.1
def tkJ (l : List Tok) (i : Nat) : Int := ((l.getD i (0, ⟨#[]⟩, 0)).2.2 : Nat)
theorem cellsT_at : ∀ (l : List Tok) (i : Nat), i < l.length → (cellsT l)[i * 3]? = some (.int .i64 (tkK l i)) ∧ (cellsT l)[i * 3 + 1]? = some (.string (tkT l i)) ∧ (cellsT l)[i * 3 + 2]? = some (.int .i64 (tkJ l i))
  | [], i, h => by simp at h
  | t :: r, 0, h => ⟨rfl, rfl, rfl⟩
  | t :: r, i + 1, h => by
    have q := cellsT_at r i (by simpa using h)
    rw [cellsT, show (i + 1) * 3 = i * 3 + 1 + 1 + 1 from by omega]
    simpa [tkK, tkT, tkJ] using q
theorem rowv_of {w : World} {B : Nat} {v : Value} {l : List Tok} (h : w.ownsRow B 88 3 v l.length (cellsT l)) : RowV w v l.length (tkK l) (tkT l) (tkJ l) := by
  rcases h.2 with ⟨rfl, h0⟩ | ⟨g, cap, cur, rfl, _⟩
  · exact Or.inl ⟨h0, rfl⟩
  · refine Or.inr ⟨g, cap, rfl, ⟨fun i hi => ?_, fun i hi => ?_, fun i hi => ?_, fun i => h.frozenAt i, (h.lt _ rfl).2⟩⟩
    · rw [h.cellAt (i * 3) (by omega)]; exact (cellsT_at l i hi).1
    · rw [h.cellAt (i * 3 + 1) (by omega)]; exact (cellsT_at l i hi).2.1
    · rw [h.cellAt (i * 3 + 2) (by omega)]; exact (cellsT_at l i hi).2.2
/-- Length, kind and fault of the token with which a text begins. -/
def tL (x : ByteArray) : Nat := if digB ((bt x 0 0 : Nat) : Int) = true then numL x else if (nameRun x x.size 0 0).1 = 0 then signW x 30 else (nameRun x x.size 0 0).1
def tK (x : ByteArray) : Int := if digB ((bt x 0 0 : Nat) : Int) = true then numK x else if (nameRun x x.size 0 0).1 = 0 then (if signW x 30 = 0 then 0 else 4) else nameKd x
def tC (x : ByteArray) : Int := if digB ((bt x 0 0 : Nat) : Int) = true then numC x else if (nameRun x x.size 0 0).1 = 0 then (if signW x 30 = 0 then 2 else 0) else nameCd x
/-- How many bytes are passed over at a place: a blank, a comment; 0 where a token must stand. -/
def skipN (s : ByteArray) (i : Nat) : Nat :=
  if bt s i 0 = 32 ∨ bt s i 0 = 9 ∨ bt s i 0 = 10 then 1
  else if bt s i 0 = 47 ∧ i + 1 < s.size ∧ bt s i 1 = 47 then lineL (s.data.toList.drop i) else 0
/-- The fault at a place, n tokens read before. -/
def fault (x : ByteArray) (n : Nat) : Int := if tC x = 0 ∧ n = 400 then 5 else tC x
/-- What is read from a place on: the tokens, the fault, its place. -/
def scan (s : ByteArray) : Nat → Nat → List Tok → List Tok × Int × Nat
  | 0, _, l => (l, 0, 0)
  | f + 1, i, l => if i < s.size then
      (if skipN s i = 0 then
        (if fault (s.extract i s.size) l.length = 0 then scan s f (i + tL (s.extract i s.size)) (l ++ [(tK (s.extract i s.size), s.extract i (i + tL (s.extract i s.size)), i)]) else ([], fault (s.extract i s.size) l.length, i))
      else scan s f (i + skipN s i) l)
    else (l, 0, 0)
theorem tL_le (x : ByteArray) : tL x ≤ x.size := by
  unfold tL
  split
  · exact numL_le x
  · split
    · rcases Nat.eq_zero_or_pos (signW x 30) with h | h
      · omega
      · have b := sign_both x 0 (Nat.zero_le _)
        have e : x.extract 0 x.size = x := by simp
        rw [e] at b
        rw [← b]
        unfold signN
        split
        · omega
        · split <;> omega
    · exact (run_le x x.size 0 0 (Nat.zero_le _)).1
theorem tL_pos (x : ByteArray) (h0 : 0 < x.size) (h : tC x = 0) : 0 < tL x := by
  unfold tC at h
  unfold tL
  by_cases d : digB ((bt x 0 0 : Nat) : Int) = true
  · rw [if_pos d]
    have p : 0 < dlen x.data.toList := by
      have := (dlen_pos x.data.toList 0).2 ((dig_at x 0 h0).2 d)
      simpa using this
    unfold numL
    split <;> omega
  · rw [if_neg d] at h ⊢
    by_cases a : (nameRun x x.size 0 0).1 = 0
    · rw [if_pos a] at h ⊢
      by_cases z : signW x 30 = 0
      · rw [if_pos z] at h; cases h
      · omega
    · rw [if_neg a]; omega
end Go.Proofs.YtpildklndfgojaaDoor.Tk
