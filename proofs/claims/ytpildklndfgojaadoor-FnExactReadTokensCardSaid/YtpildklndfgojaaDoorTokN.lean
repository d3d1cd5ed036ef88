/- The program's readNumber: kind, length and fault of a number ahead. -/
import Derived.Test.YtpildklndfgojaaDoorTokX
namespace Go.Proofs.YtpildklndfgojaaDoor.Tk
open Go.ChangeShapes Go.WideShapes Go.ChangeAt Go.RowKit
set_option linter.unusedVariables false
/-- The text behind the digits ahead, and behind the byte that follows them. -/
def numY (x : ByteArray) : ByteArray := x.extract (dlen x.data.toList) x.size
def numU (x : ByteArray) : ByteArray := (numY x).extract 1 (numY x).size
def numF (x : ByteArray) : Bool := preB (numY x) ⟨#[46]⟩ && decide (0 < dlen (numU x).data.toList)
def numK (x : ByteArray) : Int := if numF x = true then 3 else 2
def numL (x : ByteArray) : Nat := if numF x = true then dlen x.data.toList + (1 + dlen (numU x).data.toList) else dlen x.data.toList
def numC (x : ByteArray) : Int := if goodK (numK x) (x.extract 0 (numL x)) = true then 0 else 4
set_option maxHeartbeats 2000000 in
theorem num65 (x : ByteArray) (w : World) (hs : x.size ≤ 1048576) (hL : Lb w) :
    Calls Tryd.prog 65 #[.string x] w fun e w' => e = .returned (.tuple #[.int .i64 (numK x), .int .i64 (numL x : Nat), .int .i64 (numC x)]) ∧ Below w.heap.size w w' := by
  have lx : x.data.toList.length = x.size := by simp
  have dl := dlen_le x.data.toList
  rw [lx] at dl
  obtain ⟨d, hd⟩ : ∃ d, dlen x.data.toList = d := ⟨_, rfl⟩
  have hF : numF x = (preB (numY x) ⟨#[46]⟩ && decide (0 < dlen (numU x).data.toList)) := rfl
  have hK : numK x = if numF x = true then 3 else 2 := rfl
  have hN : numL x = if numF x = true then d + (1 + dlen (numU x).data.toList) else d := by rw [← hd]; rfl
  have hC : numC x = if goodK (numK x) (x.extract 0 (numL x)) = true then 0 else 4 := rfl
  have hY : x.extract d x.size = numY x := by rw [← hd]; rfl
  have hU : (numY x).extract 1 (numY x).size = numU x := rfl
  have H103 : Hid (∀ w1 : World, Calls Tryd.prog 103 #[.string x] w1 fun e w' => e = .returned (.int .i64 (d : Int)) ∧ Below w1.heap.size w1 w') := fun w1 => by rw [← hd]; exact ahead103 x w1 hs
  rw [hd] at dl
  have ys : (numY x).size = x.size - d := by rw [← hY]; exact rest_size x d dl
  obtain ⟨y, ey⟩ : ∃ y, numY x = y := ⟨_, rfl⟩
  obtain ⟨u, eu⟩ : ∃ u, numU x = u := ⟨_, rfl⟩
  rw [ey] at hF hY hU ys
  rw [eu] at hF hN hU
  have lu : u.data.toList.length = u.size := by simp
  have el := dlen_le u.data.toList
  rw [lu] at el
  have us : u.size ≤ y.size - 1 := by rw [← hU]; simp
  have U103 : Hid (∀ w1 : World, Calls Tryd.prog 103 #[.string u] w1 fun e w' => e = .returned (.int .i64 (dlen u.data.toList : Int)) ∧ Below w1.heap.size w1 w') := fun w1 => ahead103 u w1 (by omega)
  obtain ⟨m, hm⟩ : ∃ m, dlen u.data.toList = m := ⟨_, rfl⟩
  rw [hm] at hF hN el U103
  obtain ⟨P, hP⟩ : ∃ P, preB y ⟨#[46]⟩ = P := ⟨_, rfl⟩
  have H62 : Hid (∀ w1 : World, Calls Tryd.prog 62 #[.string y, .string ⟨#[46]⟩] w1 fun e w' => e = .returned (.bool P) ∧ w' = w1) := fun w1 => by rw [← hP]; exact prefix26 y ⟨#[46]⟩ w1
  have py : P = true → 1 ≤ y.size := by
    intro q
    have a := (pre_iff _ _).1 (hP.trans q)
    have b := congrArg List.length a
    rw [List.length_take] at b
    have ly : y.data.toList.length = y.size := by simp
    rw [ly] at b
    have c : (ByteArray.mk #[46]).data.toList.length = 1 := rfl
    have c2 : (ByteArray.mk #[46]).size = 1 := rfl
    rw [c, c2] at b
    omega
  rw [hP] at hF
  have HY : Hid (x.extract d x.size = y) := hY
  have HU : Hid (y.extract 1 y.size = u) := hU
  have HL : Hid (Lb w) := hL
  have d0 : (0 : Int) ≤ (d : Int) := by omega
  have d1 : (d : Int) ≤ (x.size : Int) := by omega
  have d2 : (d : Int) ≤ 1048576 := by omega
  have m1 : (m : Int) ≤ 1048576 := by omega
  have xs' : (x.size : Int) ≤ 1048576 := by omega
  clear hd hY hU hL hm lx lu ey eu hP
  cases P with
  | false =>
    have f0 : numF x = false := by rw [hF]; rfl
    rw [f0] at hK hN
    simp only [Bool.false_eq_true, if_false] at hK hN
    rw [hK, hN] at hC ⊢
    obtain ⟨z, hz⟩ : ∃ z, x.extract 0 d = z := ⟨_, rfl⟩
    have HZ : Hid (x.extract 0 d = z) := hz
    rw [hz] at hC
    have zs : z.size ≤ 1048576 := by rw [← hz]; simp; omega
    obtain ⟨G, hG⟩ : ∃ G, goodK 2 z = G := ⟨_, rfl⟩
    have H74 : Hid (∀ w1 : World, Lb w1 → Calls Tryd.prog 74 #[.int .i64 2, .string z] w1 fun e w' => e = .returned (.bool G) ∧ Below w1.heap.size w1 w') := fun w1 l1 => by rw [← hG]; exact good74 2 z w1 zs l1
    rw [hG] at hC
    clear hz hG hF hK hN f0 U103 py
    cases G
    all_goals
      simp only [Bool.false_eq_true, if_false, if_true] at hC
      rw [hC]
      clear hC
      go_enter Tryd.func65, Tryd.ntmps65
      go_wp2_with (first | (go_at_call 103; refine ((Hid.out H103) _).mono ?_; rintro e w1 ⟨rfl, B1⟩) | (go_at_call 62; (try simp only [Int.toNat_natCast]); rw [HY.out]; refine ((Hid.out H62) _).mono ?_; rintro e w2 ⟨rfl, hw⟩; subst w2) | (go_at_call 74; (try simp only [Int.toNat_natCast]); rw [HZ.out]; refine ((Hid.out H74) _ (HL.out.next B1)).mono ?_; rintro e w3 ⟨rfl, B3⟩))
      go_ret3
      exact ⟨rfl, step_b B1 B3⟩
  | true =>
    have y1 := py rfl
    have y1' : (1 : Int) ≤ (y.size : Int) := by omega
    have ys' : (y.size : Int) ≤ 1048576 := by omega
    by_cases m0 : 0 < m
    · have m0' : (0 : Int) < (m : Int) := by omega
      have f0 : numF x = true := by rw [hF, decide_eq_true m0]; rfl
      rw [f0] at hK hN
      simp only [if_true] at hK hN
      rw [hK, hN] at hC ⊢
      have k1 : (d : Int) + (1 + (m : Int)) ≤ (x.size : Int) := by omega
      have k0 : (0 : Int) ≤ (d : Int) + (1 + (m : Int)) := by omega
      obtain ⟨z, hz⟩ : ∃ z, x.extract 0 (d + (1 + m)) = z := ⟨_, rfl⟩
      have HZ : Hid (x.extract 0 (d + (1 + m)) = z) := hz
      have tn : Hid (((d : Int) + (1 + (m : Int))).toNat = d + (1 + m)) := by show ((d : Int) + (1 + (m : Int))).toNat = d + (1 + m); omega
      rw [hz] at hC
      have zs : z.size ≤ 1048576 := by rw [← hz]; simp; omega
      obtain ⟨G, hG⟩ : ∃ G, goodK 3 z = G := ⟨_, rfl⟩
      have H74 : Hid (∀ w1 : World, Lb w1 → Calls Tryd.prog 74 #[.int .i64 3, .string z] w1 fun e w' => e = .returned (.bool G) ∧ Below w1.heap.size w1 w') := fun w1 l1 => by rw [← hG]; exact good74 3 z w1 zs l1
      rw [hG] at hC
      clear hz hG hF hK hN f0 py ys us el dl
      cases G
      all_goals
        simp only [Bool.false_eq_true, if_false, if_true] at hC
        rw [hC]
        clear hC
        go_enter Tryd.func65, Tryd.ntmps65
        go_wp2_with (first | (go_at_call 103; (with_reducible show Calls Tryd.prog 103 #[.string x] _ _); refine ((Hid.out H103) _).mono ?_; rintro e w1 ⟨rfl, B1⟩) | (go_at_call 62; (try simp only [Int.toNat_natCast]); rw [HY.out]; refine ((Hid.out H62) _).mono ?_; rintro e w2 ⟨rfl, hw⟩; subst w2) | (go_at_call 103; (try simp only [Int.toNat_natCast]); (try rw [HY.out]); (try rw [show (1 : Int).toNat = 1 from rfl]); rw [HU.out]; refine ((Hid.out U103) w1).mono ?_; rintro e w3 ⟨rfl, B3⟩) | (go_at_call 103; (try simp only [Int.toNat_natCast]); (try rw [HY.out]); (try rw [show (1 : Int).toNat = 1 from rfl]); rw [HU.out]; refine ((Hid.out U103) w3).mono ?_; rintro e w4 ⟨rfl, B4⟩) | (go_at_call 74; (try rw [tn.out]); rw [HZ.out]; refine ((Hid.out H74) _ (((HL.out.next B1).next B3).next B4)).mono ?_; rintro e w5 ⟨rfl, B5⟩))
        go_ret3
        exact ⟨rfl, step_b (step_b (step_b B1 B3) B4) B5⟩
    · have m0' : ¬ (0 : Int) < (m : Int) := by omega
      have f0 : numF x = false := by rw [hF, decide_eq_false m0]; rfl
      rw [f0] at hK hN
      simp only [Bool.false_eq_true, if_false] at hK hN
      rw [hK, hN] at hC ⊢
      obtain ⟨z, hz⟩ : ∃ z, x.extract 0 d = z := ⟨_, rfl⟩
      have HZ : Hid (x.extract 0 d = z) := hz
      rw [hz] at hC
      have zs : z.size ≤ 1048576 := by rw [← hz]; simp; omega
      obtain ⟨G, hG⟩ : ∃ G, goodK 2 z = G := ⟨_, rfl⟩
      have H74 : Hid (∀ w1 : World, Lb w1 → Calls Tryd.prog 74 #[.int .i64 2, .string z] w1 fun e w' => e = .returned (.bool G) ∧ Below w1.heap.size w1 w') := fun w1 l1 => by rw [← hG]; exact good74 2 z w1 zs l1
      rw [hG] at hC
      clear hz hG hF hK hN f0 py ys us el dl
      cases G
      all_goals
        simp only [Bool.false_eq_true, if_false, if_true] at hC
        rw [hC]
        clear hC
        go_enter Tryd.func65, Tryd.ntmps65
        go_wp2_with (first | (go_at_call 103; (with_reducible show Calls Tryd.prog 103 #[.string x] _ _); refine ((Hid.out H103) _).mono ?_; rintro e w1 ⟨rfl, B1⟩) | (go_at_call 62; (try simp only [Int.toNat_natCast]); rw [HY.out]; refine ((Hid.out H62) _).mono ?_; rintro e w2 ⟨rfl, hw⟩; subst w2) | (go_at_call 103; (try simp only [Int.toNat_natCast]); (try rw [HY.out]); (try rw [show (1 : Int).toNat = 1 from rfl]); rw [HU.out]; refine ((Hid.out U103) w1).mono ?_; rintro e w3 ⟨rfl, B3⟩) | (go_at_call 74; (try simp only [Int.toNat_natCast]); rw [HZ.out]; refine ((Hid.out H74) _ ((HL.out.next B1).next B3)).mono ?_; rintro e w5 ⟨rfl, B5⟩))
        go_ret3
        exact ⟨rfl, step_b (step_b B1 B3) B5⟩
end Go.Proofs.YtpildklndfgojaaDoor.Tk
