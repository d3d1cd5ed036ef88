/- What an instruction reads, told without a program. -/
import Derived.Test.YtcgapochcahknaaDoorBnr
import Derived.Test.YtcgapochcahknaaDoorLgm
namespace Go.Proofs.YtcgapochcahknaaDoor
open Go.ChangeShapes Go.WideShapes Go.ChangeAt Go.RowKit
set_option linter.unusedVariables false
def opsL (o a b c x : Int) : List Int :=
  if o = 2 ∨ o = 6 ∨ o = 9 ∨ o = 12 ∨ o = 13 then [a]
  else if o = 3 ∨ o = 7 then [a, b]
  else if o = 4 then [a, b, c].take (ar (calW x)).toNat
  else []
theorem opsL_len (o a b c x : Int) : (opsL o a b c x).length ≤ 3 := by
  unfold opsL
  repeat' split
  all_goals simp
  all_goals omega
/-- A number put into a rising list. -/
def insU (x : Int) : List Int → List Int
  | [] => [x]
  | y :: r => if y < x then y :: insU x r else if y = x then y :: r else x :: y :: r
def srt : List Int → List Int := List.foldl (fun l x => insU x l) []
theorem srt_snoc (l : List Int) (x : Int) : srt (l ++ [x]) = insU x (srt l) := by simp [srt, List.foldl_append]
theorem insU_len (x : Int) : ∀ l, (insU x l).length ≤ l.length + 1
  | [] => by simp [insU]
  | y :: r => by
    have := insU_len x r
    unfold insU
    repeat' split
    all_goals simp
    all_goals omega
theorem srt_lenA : ∀ (l acc : List Int), (l.foldl (fun l x => insU x l) acc).length ≤ acc.length + l.length
  | [], acc => by simp
  | x :: l, acc => by
    have h1 := srt_lenA l (insU x acc)
    have h2 := insU_len x acc
    simp only [List.foldl_cons, List.length_cons]
    omega
theorem srt_len (l : List Int) : (srt l).length ≤ l.length := by
  have := srt_lenA l []
  simpa [srt] using this
theorem insU_mem (x y : Int) : ∀ l, y ∈ insU x l ↔ y = x ∨ y ∈ l
  | [] => by simp [insU]
  | z :: r => by
    have := insU_mem x y r
    unfold insU
    repeat' split
    · simp [this]
      constructor
      · rintro (h | h | h) <;> simp [h]
      · rintro (h | h | h) <;> simp [h]
    · simp; rename_i h; subst h; intro h; simp [h]
    · simp
theorem srt_memA (y : Int) : ∀ (l acc : List Int), y ∈ l.foldl (fun l x => insU x l) acc ↔ y ∈ acc ∨ y ∈ l
  | [], acc => by simp
  | x :: l, acc => by
    rw [List.foldl_cons, srt_memA y l, insU_mem, List.mem_cons]
    constructor
    · rintro ((h | h) | h) <;> simp [h]
    · rintro (h | h | h) <;> simp [h]
theorem srt_mem (y : Int) (l : List Int) : y ∈ srt l ↔ y ∈ l := by
  have := srt_memA y l []
  simpa [srt] using this
/-- Where the number goes: ahead of p all are less, from p on none is. -/
theorem insU_at (x : Int) : ∀ (l : List Int) (p : Nat), p ≤ l.length → (∀ i, i < p → l.getD i 0 < x) → (p < l.length → x < l.getD p 0) → insU x l = l.take p ++ (x :: l.drop p)
  | [], p, hp, _, _ => by simp at hp; subst hp; rfl
  | y :: r, 0, _, _, h2 => by
    have := h2 (by simp)
    simp at this
    unfold insU
    rw [if_neg (by omega), if_neg (by omega)]
    rfl
  | y :: r, p + 1, hp, h1, h2 => by
    have h0 := h1 0 (by omega)
    simp at h0
    unfold insU
    rw [if_pos h0, insU_at x r p (by simpa using hp) (fun i hi => by simpa using h1 (i + 1) (by omega)) (fun h => by simpa using h2 (by simpa using h))]
    rfl
theorem insU_same (x : Int) : ∀ (l : List Int) (p : Nat), p < l.length → (∀ i, i < p → l.getD i 0 < x) → l.getD p 0 = x → insU x l = l
  | [], p, hp, _, _ => by simp at hp
  | y :: r, 0, _, _, h2 => by
    simp at h2
    unfold insU
    rw [if_neg (by omega), if_pos h2]
  | y :: r, p + 1, hp, h1, h2 => by
    have h0 := h1 0 (by omega)
    simp at h0
    unfold insU
    rw [if_pos h0, insU_same x r p (by simpa using hp) (fun i hi => by simpa using h1 (i + 1) (by omega)) (by simpa using h2)]
def il (L : List Int) : List Value := L.map (Value.int .i64)
theorem il_app (a b : List Int) : il (a ++ b) = il a ++ il b := List.map_append
theorem info3 : (Tryd.prog.info? 3).map (fun i => (i.zero, i.size, i.bytes)) = some (some (.int .i64 0), 1, 8) := by kernel_rfl
/-- A row of whole numbers that a call is making. -/
def Ri (B : Nat) (w : World) (v : Value) (L : List Int) : Prop := w.ownsRow B 3 1 v L.length (il L) ∧ B ≤ w.heap.size
theorem Ri.next {B : Nat} {w w' : World} {v : Value} {L : List Int} (h : Ri B w v L) (b : Below w.heap.size w w') : Ri B w' v L :=
  ⟨h.1.kept (row := none) ⟨b.os, b.tape, b.output, b.size, fun i hi _ => b.block i hi⟩ (by cases e : v.ownBlock <;> simp), Nat.le_trans h.2 b.size⟩
theorem Ri.alloc {B : Nat} {w : World} {v : Value} {L : List Int} (h : Ri B w v L) (o : Obj) : Ri B (w.alloc o) v L := h.next ((Below.refl _ _).alloc (Nat.le_refl _) _)
theorem Ri.lt {B : Nat} {w : World} {v : Value} {L : List Int} (h : Ri B w v L) : ∀ g, v.ownBlock = some g → B ≤ g ∧ g < w.heap.size := fun g hg => h.1.lt g hg
/-- A slice of whole numbers in memory, or none. -/
def IRow (w : World) (v : Value) (L : List Int) : Prop := (L = [] ∧ v = .slice none 0 0) ∨ ∃ g c, v = .slice (some ⟨g, 0, none⟩) L.length c ∧ L.length ≤ c ∧ Own w g L.length (fun i => .int .i64 (L.getD i 0))
theorem IRow.next {w w' : World} {v : Value} {L : List Int} (h : IRow w v L) (b : Below w.heap.size w w') : IRow w' v L := by
  rcases h with h | ⟨g, c, hv, hc, O⟩
  · exact Or.inl h
  · exact Or.inr ⟨g, c, hv, hc, O.next b⟩
theorem IRow.is {w : World} {v : Value} {L : List Int} (h : IRow w v L) : ∃ a c, v = .slice a L.length c := by
  rcases h with ⟨rfl, rfl⟩ | ⟨g, c, rfl, _, _⟩
  · exact ⟨_, _, rfl⟩
  · exact ⟨_, _, rfl⟩
end Go.Proofs.YtcgapochcahknaaDoor
