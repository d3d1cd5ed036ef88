/- The program's plainNumber and isWhole, by the library's contracts. -/
import Derived.Test.YtpildklndfgojaaDoorTokA
import Derived.Test.YtpildklndfgojaaDoorNum
import Derived.Test.YtpildklndfgojaaDoorShelf
import Derived.WalkSmall
import Derived.Lib.AppendIntMem
import Derived.Lib.AtoiErrMem
namespace Go.Proofs.YtpildklndfgojaaDoor.Tk
open Go.ChangeShapes Go.WideShapes Go.ChangeAt Go.RowKit
set_option linter.unusedVariables false
theorem gSyn : Tryd.prog.globalNamed "strconv.ErrSyntax" = some 3 := by kernel_rfl
theorem gRng : Tryd.prog.globalNamed "strconv.ErrRange" = some 4 := by kernel_rfl
theorem gPow : Tryd.prog.globalNamed "internal/strconv.uint64pow10" = some 7 := by kernel_rfl
/-- What the library reads of its variables. -/
structure Lb (w : World) : Prop where
  syn : ∃ tp p, w.var? Tryd.prog "strconv.ErrSyntax" = some #[.iface tp p]
  rng : ∃ tp p, w.var? Tryd.prog "strconv.ErrRange" = some #[.iface tp p]
  pow : Lib.TabIs Tryd.prog w "internal/strconv.uint64pow10" .u64 Lib.pow10Tab
  low : 10 ≤ w.heap.size
theorem Lb.next {w w' : World} (h : Lb w) (hb : Below w.heap.size w w') : Lb w' := by
  have l := h.low
  have z := hb.size
  obtain ⟨t1, p1, h1⟩ := h.syn
  obtain ⟨t2, p2, h2⟩ := h.rng
  exact ⟨⟨t1, p1, var?_below hb gSyn (by omega) h1⟩, ⟨t2, p2, var?_below hb gRng (by omega) h2⟩, var?_below hb gPow (by omega) h.pow, by omega⟩
theorem step_b {w a b : World} (h : Below w.heap.size w a) (k : Below a.heap.size a b) : Below w.heap.size w b := h.trans (k.mono h.size)
theorem atoi_ok (s : ByteArray) (hs : s.size ≤ 1048576) (v : Int) (h : Lib.atoiAll s.data.toList = .ok v) (w : World) :
    Calls Tryd.prog 154 #[.string s] w fun e w' => e = .returned (.tuple #[.int .i64 v, .nilIface]) ∧ Below w.heap.size w w' :=
  (Tryd.strconv_Atoi_ok s (by omega) v h w).mono fun e w' ⟨h1, h2⟩ => ⟨h1, by
    rcases h2 with rfl | ⟨t, rfl⟩
    · exact Below.refl _ _
    · exact Lib.bytesWorld_below w 5 t⟩
theorem itoa_at (n : Int) (h0 : -9223372036854775808 ≤ n) (h1 : n ≤ 9223372036854775807) (w : World) (hL : Lb w) :
    Calls Tryd.prog 155 #[.int .i64 n] w fun e w' => e = .returned (.string ⟨(Lib.itoa n).toArray⟩) ∧ Below w.heap.size w w' :=
  (Tryd.strconv_Itoa n h0 h1 w hL.pow).mono fun e w' ⟨h1, k, os, h2⟩ => ⟨h1, by rw [h2]; exact Lib.below_grow _ w (Nat.le_refl _) k os⟩
/-- What plainNumber answers. -/
def plainB (l : List UInt8) : Bool := match Lib.atoiAll l with
  | .ok v => decide (Lib.itoa v = l)
  | _ => false
def plainV (l : List UInt8) : Int := match Lib.atoiAll l with
  | .ok v => if Lib.itoa v = l then v else 0
  | _ => 0
set_option maxHeartbeats 1000000 in
theorem plain132 (s : ByteArray) (w : World) (hs : s.size ≤ 1048576) (hL : Lb w) :
    Calls Tryd.prog 132 #[.string s] w fun e w' => e = .returned (.tuple #[.int .i64 (plainV s.data.toList), .bool (plainB s.data.toList)]) ∧ Below w.heap.size w w' := by
  have HL : Hid (Lb w) := hL
  clear hL
  cases h : Lib.atoiAll s.data.toList with
  | ok v =>
    have bd := Lib.atoiAll_bounds h
    have ha := atoi_ok s hs v h w
    have HI : Hid (∀ w1 : World, Lb w1 → Calls Tryd.prog 155 #[.int .i64 v] w1 fun e w' => e = .returned (.string ⟨(Lib.itoa v).toArray⟩) ∧ Below w1.heap.size w1 w') := fun w1 h1 => itoa_at v bd.1 bd.2 w1 h1
    obtain ⟨B, hB⟩ : ∃ B, plainB s.data.toList = B := ⟨_, rfl⟩
    obtain ⟨V, hV⟩ : ∃ V, plainV s.data.toList = V := ⟨_, rfl⟩
    rw [hB, hV]
    unfold plainB at hB
    unfold plainV at hV
    rw [h] at hB hV
    simp only at hB hV
    obtain ⟨t, ht⟩ : ∃ t, Lib.itoa v = t := ⟨_, rfl⟩
    rw [ht] at HI hB hV
    have HA : Hid (Calls Tryd.prog 154 #[.string s] w fun e w' => e = .returned (.tuple #[.int .i64 v, .nilIface]) ∧ Below w.heap.size w w') := ha
    clear ha h ht
    by_cases e : t = s.data.toList
    · have e1 : (t == s.toList) = true := by rw [ByteArray.toList_eq]; simpa using e
      rw [if_pos e] at hV
      rw [decide_eq_true e] at hB
      subst hV hB
      clear e
      go_enter Tryd.func132, Tryd.ntmps132
      go_wp2_with (first | (go_at_call 154; refine (Hid.out HA).mono ?_; rintro e w1 ⟨rfl, b1⟩) | (go_at_call 155; refine ((Hid.out HI) w1 (HL.out.next b1)).mono ?_; rintro e w2 ⟨rfl, b2⟩))
      go_ret2
      exact ⟨rfl, step_b b1 b2⟩
    · have e1 : (t == s.toList) = false := by rw [ByteArray.toList_eq]; simpa using e
      rw [if_neg e] at hV
      rw [decide_eq_false e] at hB
      subst hV hB
      clear e
      go_enter Tryd.func132, Tryd.ntmps132
      go_wp2_with (first | (go_at_call 154; refine (Hid.out HA).mono ?_; rintro e w1 ⟨rfl, b1⟩) | (go_at_call 155; refine ((Hid.out HI) w1 (HL.out.next b1)).mono ?_; rintro e w2 ⟨rfl, b2⟩))
      go_ret2
      exact ⟨rfl, step_b b1 b2⟩
  | «syntax» =>
    obtain ⟨tp, p, hv⟩ := HL.out.syn
    have ha := Tryd.strconv_Atoi_syntax_var s (by omega) h tp p w hv
    have hB : plainB s.data.toList = false := by unfold plainB; rw [h]
    have hV : plainV s.data.toList = 0 := by unfold plainV; rw [h]
    rw [hB, hV]
    clear hv h hB hV
    go_enter Tryd.func132, Tryd.ntmps132
    go_wp2_with (go_at_call 154; refine ha.mono ?_; rintro e w1 ⟨q, rfl, _, _, b1⟩)
    go_ret2
    exact ⟨rfl, b1⟩
  | range =>
    obtain ⟨tp, p, hv⟩ := HL.out.rng
    have ha := Tryd.strconv_Atoi_range_var s (by omega) h tp p w hv
    have hB : plainB s.data.toList = false := by unfold plainB; rw [h]
    have hV : plainV s.data.toList = 0 := by unfold plainV; rw [h]
    rw [hB, hV]
    clear hv h hB hV
    go_enter Tryd.func132, Tryd.ntmps132
    go_wp2_with (go_at_call 154; refine ha.mono ?_; rintro e w1 ⟨q, rfl, _, _, b1⟩)
    go_ret2
    exact ⟨rfl, b1⟩
theorem wholeI_plain (l : List UInt8) : wholeI l = (plainB l && (decide (0 ≤ plainV l) && decide (plainV l ≤ 2147483647))) := by
  unfold wholeI plainB plainV
  cases h : Lib.atoiAll l with
  | ok v =>
    simp only
    by_cases e : Lib.itoa v = l
    · simp [e]
    · simp [e]
  | «syntax» => rfl
  | range => rfl
theorem whole111 (s : ByteArray) (w : World) (hs : s.size ≤ 1048576) (hL : Lb w) :
    Calls Tryd.prog 111 #[.string s] w fun e w' => e = .returned (.bool (wholeI s.data.toList)) ∧ Below w.heap.size w w' := by
  rw [wholeI_plain]
  have hp := plain132 s w hs hL
  clear hL
  obtain ⟨B, hB⟩ : ∃ B, plainB s.data.toList = B := ⟨_, rfl⟩
  obtain ⟨V, hV⟩ : ∃ V, plainV s.data.toList = V := ⟨_, rfl⟩
  rw [hB, hV] at hp ⊢
  clear hB hV
  cases B
  · go_enter Tryd.func111, Tryd.ntmps111
    go_wp2_with (go_at_call 132; refine hp.mono ?_; rintro e w1 ⟨rfl, b1⟩)
    go_ret
    exact ⟨rfl, b1⟩
  · by_cases v0 : 0 ≤ V <;> by_cases v1 : V ≤ 2147483647
    all_goals first | (exfalso; omega) | (
      go_enter Tryd.func111, Tryd.ntmps111
      go_wp2_with (go_at_call 132; refine hp.mono ?_; rintro e w1 ⟨rfl, b1⟩)
      go_ret
      exact ⟨by simp [*], b1⟩)
end Go.Proofs.YtpildklndfgojaaDoor.Tk
