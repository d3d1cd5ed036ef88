/- The program's without: instructions are taken out, numbers become those of the same instructions or of the next ones. -/
import Derived.Test.YtcgapochcahknaaDoorJnd
import Derived.Test.YtcgapochcahknaaDoorTkm
import Derived.Test.YtcgapochcahknaaDoorUnr
import Derived.Test.YtcgapochcahknaaDoorGd
import Derived.Lib.SliceRun
namespace Go.Proofs.YtcgapochcahknaaDoor
open Go.ChangeShapes Go.WideShapes Go.ChangeAt Go.RowKit
set_option linter.unusedVariables false
theorem isnumAll (o : Int) (k : Nat) (hk : k < 5) (v : World) : Calls Tryd.prog 100 #[.int .i64 o, .int .i64 (k : Int)] v fun e w' => e = .returned (.bool (isN o k)) ∧ w' = v := by
  rcases (by omega : k = 0 ∨ k = 1 ∨ k = 2 ∨ k = 3 ∨ k = 4) with rfl | rfl | rfl | rfl | rfl
  · exact isnum72_0 o v
  · exact isnum72_1 o v
  · exact isnum72_2 o v
  · exact isnum72_3 o v
  · exact isnum72_4 o v
theorem isN_0 (o : Int) : isN o 0 = false := by unfold isN; simp
theorem isN_4 (o : Int) : isN o 4 = false := by unfold isN; simp
theorem isN_1 (o : Int) : isN o 1 = (o == 8) := by unfold isN; simp
theorem isN_2 (o : Int) : isN o 2 = (o == 9) := by unfold isN; simp
theorem isN_3 (o : Int) : isN o 3 = (o == 9) := by unfold isN; simp
set_option maxRecDepth 100000 in
set_option maxHeartbeats 2000000 in
theorem ends47_0 (a : Option Addr) (c : Nat) (w : World) : Calls Tryd.prog 89 #[.slice a 0 c] w fun e w' => e = .returned (.bool false) ∧ w' = w := by
  go_enter Tryd.func89, Tryd.ntmps89
  go_wp2
  go_ret
  exact ⟨rfl, rfl⟩
set_option maxRecDepth 100000 in
set_option maxHeartbeats 2000000 in
theorem instr80 (o d a b c x : Int) (w : World) (x0 : 0 ≤ x) (x1 : x < 4294967296) : Calls Tryd.prog 96 #[.int .i64 o, .agg #[.int .i64 d, .int .i64 a, .int .i64 b, .int .i64 c, .int .i64 x]] w fun e w' => e = .returned (.agg #[.int .i64 o, .int .i64 d, .int .i64 a, .int .i64 b, .int .i64 c, .int .u32 x]) ∧ Below w.heap.size w w' := by
  have hx : x % 4294967296 = x := by omega
  go_enter Tryd.func96, Tryd.ntmps96
  go_wp2
  exact bodyPost_ret (v := .agg #[.int .i64 o, .int .i64 d, .int .i64 a, .int .i64 b, .int .i64 c, .int .u32 x]) (by simp [results, Tryd.results96, go_sem]) rfl ⟨rfl, by repeat (first | (with_reducible refine Below.setCell ?_ (by first | omega | (simp; try omega)) _) | (with_reducible refine Below.alloc ?_ (by first | omega | (simp; try omega)) _) | (with_reducible exact Below.refl _ _))⟩
set_option maxRecDepth 100000 in
set_option maxHeartbeats 2000000 in
theorem clone61 (n a cap : Nat) (O D A B C X : Nat → Int) (w : World) (R : RowI w a n O D A B C X) (n0 : 1 ≤ n) (n1 : n ≤ 600) : Calls Tryd.prog 64 #[.slice (some ⟨a, 0, none⟩) n cap] w fun e w' => ∃ g c, e = .returned (.slice (some ⟨g, 0, none⟩) n c) ∧ w.heap.size ≤ g ∧ RowI w' g n O D A B C X ∧ Below w.heap.size w w' := by
  obtain ⟨i5, hi5, hz50, hz51, hz52⟩ := info_parts infoI
  have HR : Hid (RowI w a n O D A B C X) := R
  have H0 : Hid ((w.alloc (.cells #[] 35)).ownsRow w.heap.size 35 6 (.slice (some ⟨w.heap.size, 0, none⟩) 0 0) 0 []) := World.ownsRow_lit w #[] 0 (Nat.le_refl _) (by decide) rfl
  have HRA : Hid (RowI (w.alloc (.cells #[] 35)) a n O D A B C X) := R.next ((Below.refl _ _).alloc (Nat.le_refl _) _)
  have qn : ∀ v : World, (binOp .eql 56 (.slice (some ⟨a, 0, none⟩) n cap) (.slice none 0 0)).run Tryd.prog v = .ok (.bool false) v := fun v => Lib.run_eql_slice_nil v 56 35 (some ⟨a, 0, none⟩) n cap 0 0 Tryd.underlying56
  clear R
  go_enter Tryd.func64, Tryd.ntmps64
  go_wp2_with (at_builtin; refine wpList_append_own _ rfl _ _ 56 rfl w.heap.size 35 i5 (.agg #[.int .i64 0, .int .i64 0, .int .i64 0, .int .i64 0, .int .i64 0, .int .u32 0]) 6 48 Tryd.underlying56 hi5 hz50 hz51 hz52 rfl (by decide) _ _ _ rfl H0.out ⟨a, 0, none⟩ n cap (cellsP O D A B C X n) rfl ?c0 ?c1 ?c2 ?c3 ?c4 ?c5 ?_)
  case c0 => exact cellsP_len O D A B C X n
  case c1 =>
    intro j u hj
    have e : (⟨a, 0, none⟩ : Addr).add j = ⟨a, j, none⟩ := by simp [Addr.add]; intro h; omega
    rw [e]
    exact cells_row HRA.out j u hj
  case c2 => exact cellsP_one O D A B C X n
  case c3 => unfold maxLen; omega
  case c4 => omega
  case c5 => simp
  intro v3 w3 hown hgrow _
  have hown' : w3.ownsRow w.heap.size 35 6 v3 n (cellsP O D A B C X n) := by simpa using hown
  have B3 : Below w.heap.size w w3 := ((Below.refl _ _).alloc (Nat.le_refl _) _).grown hgrow (by simp) (fun q hq => by simp [Value.ownBlock] at hq; omega)
  obtain ⟨g, c, rfl, hg, _⟩ := World.ownsRow.form hown' (by omega)
  have RR : RowI w3 g n O D A B C X := rowI_of hown'
  have hgl := (hown'.lt g rfl).1
  clear hown hgrow hown' H0 HRA
  go_wp2
  go_ret
  exact ⟨g, c, rfl, hgl, RR, B3⟩
/-- A field behind the renumbering. -/
def nvF (Z : Nat → Bool) (n : Nat) (o d a b c x : Int) (f : Nat) : Int := if isN o f then numT Z n (val d a b c x f) else val d a b c x f
end Go.Proofs.YtcgapochcahknaaDoor
