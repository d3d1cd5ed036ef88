/- What ReadTokens calls: the run of a name from a place on, and how it is the run of the rest of the text; the rest of a line, a name, a sign, a copy. -/
import Derived.Test.YtpildklndfgojaaDoorTokG
import Derived.Test.YtpildklndfgojaaDoorTokM
namespace Go.Proofs.YtpildklndfgojaaDoor.Tk
open Go.ChangeShapes Go.WideShapes Go.ChangeAt Go.RowKit
set_option linter.unusedVariables false
set_option maxRecDepth 100000 in
set_option maxHeartbeats 2000000 in
theorem runAt (s : ByteArray) (i0 : Nat) (w : World) (hs : s.size ≤ 1048576) (hi0 : i0 ≤ s.size) :
    Calls Tryd.prog 58 #[.string s, .int .i64 (i0 : Nat)] w fun r w' => r = .returned (.tuple #[.int .i64 ((nameRun s s.size i0 0).1 : Nat), .int .i64 ((nameRun s s.size i0 0).2 : Nat)]) ∧ w' = w := by
  obtain ⟨R, hR⟩ : ∃ R, nameRun s s.size i0 0 = R := ⟨_, rfl⟩
  rw [hR]
  have HR0 : Hid (nameRun s s.size i0 0 = R) := hR
  clear hR
  have hs' : (s.size : Int) ≤ 1048576 := by omega
  go_enter Tryd.func58, Tryd.ntmps58
  go_wp2
  go_loop [1, 6] (fun iv rv => ∃ f i r : Nat, iv = .int .i64 i ∧ rv = .int .i64 r ∧ i ≤ s.size ∧ r ≤ i ∧ s.size ≤ i + f ∧ Hid (nameRun s f i r = R)) (fun iv _ => s.size - (intOf iv).toNat)
  case atStart => exact ⟨s.size, i0, 0, rfl, rfl, hi0, by omega, by omega, HR0⟩
  case round =>
    obtain ⟨f, i, r, rfl, rfl, hi, hr, hf, HR⟩ := hrel
    by_cases hlt : i < s.size
    · obtain ⟨f, rfl⟩ : ∃ g, f = g + 1 := ⟨f - 1, by omega⟩
      have hl := step_le s i (decide (r = 0)) hlt
      have i0 : (0 : Int) ≤ (i : Int) := by omega
      have i1 : (i : Int) < (s.size : Int) := by omega
      obtain ⟨b, hb⟩ : ∃ b : Int, ((bt s i 0 : Nat) : Int) = b := ⟨_, rfl⟩
      have hB : (((s[i]'hlt).toNat : Nat) : Int) = b := by rw [← hb]; exact congrArg Int.ofNat (bt_eq s i 0 hlt)
      have b0 : 0 ≤ b := by omega
      have b1 : b < 256 := by have := bt_lt s i 0; omega
      obtain ⟨N, hN⟩ : ∃ N, stepN s i (decide (r = 0)) = N := ⟨_, rfl⟩
      rw [hN] at hl
      have HS : Hid (if N = 0 then (i, r) = R else nameRun s f (i + N) (r + 1) = R) := by
        show if N = 0 then (i, r) = R else nameRun s f (i + N) (r + 1) = R
        have h := HR.out
        rw [nameRun, if_pos hlt, hN] at h
        split
        · rename_i h0; rw [if_pos h0] at h; exact h
        · rename_i h0; rw [if_neg h0] at h; exact h
      by_cases h128 : 128 ≤ b
      · have eN : runeN s i (bt s i 0) = (N : Int) := by
          have h1 := (rune_decode s i (by omega)).1
          have h2 : 0 ≤ runeN s i (bt s i 0) := by rw [h1]; split <;> omega
          rw [← hN]; unfold stepN; rw [if_pos (by omega)]; omega
        have hrun := rune20 s i w hlt hs
        rw [eN] at hrun
        have HRUN : Hid (Calls Tryd.prog 98 #[.string s, .int .i64 i] w fun r w' => r = .returned (.int .i64 (N : Int)) ∧ w' = w) := hrun
        have HLT : Hid (i < s.size) := hlt
        clear hrun eN hN hb
        by_cases n0 : N = 0
        · subst n0
          have HE : Hid ((i, r) = R) := by have := HS.out; rw [if_pos rfl] at this; exact this
          clear HS
          go_wp2_with (go_at_call 98; refine (Hid.out HRUN).mono ?_; rintro e w' ⟨rfl, hw⟩; subst w')
          go_ret2
          exact ⟨by rw [← HE.out]; rfl, rfl⟩
        · have HE : Hid (nameRun s f (i + N) (r + 1) = R) := by have := HS.out; rw [if_neg n0] at this; exact this
          have n0' : ¬ (N : Int) = 0 := by omega
          clear HS
          go_wp2_with (go_at_call 98; refine (Hid.out HRUN).mono ?_; rintro e w' ⟨rfl, hw⟩; subst w')
          go_round
          case rel => exact ⟨f, i + N, r + 1, by go_num, by go_num, by omega, by omega, by omega, HE⟩
          case measure => simp [intOf]; omega
      · have eN : N = if (letB b || (digB b && decide (0 < (r : Int)))) = true then 1 else 0 := by rw [← hN]; exact step_zero s i r hlt b hb (by omega)
        have hlet := letter21 b w b0 b1
        have hdig := digit22 b w b0 b1
        obtain ⟨L, hL⟩ : ∃ L, letB b = L := ⟨_, rfl⟩
        obtain ⟨D, hD⟩ : ∃ D, digB b = D := ⟨_, rfl⟩
        rw [hL] at eN hlet
        rw [hD] at eN hdig
        have HLET : Hid (Calls Tryd.prog 99 #[.int .u8 b] w fun r w' => r = .returned (.bool L) ∧ w' = w) := hlet
        have HDIG : Hid (Calls Tryd.prog 54 #[.int .u8 b] w fun r w' => r = .returned (.bool D) ∧ w' = w) := hdig
        have EN : Hid (N = if (L || (D && decide (0 < (r : Int)))) = true then 1 else 0) := eN
        clear hlet hdig hL hD hN hb eN
        obtain ⟨P, hP⟩ : ∃ P, decide (0 < r) = P := ⟨_, rfl⟩
        have eP : decide ((0 : Int) < (r : Int)) = P := by rw [← hP, Bool.eq_iff_iff]; simp
        have EP : Hid (decide ((0 : Int) < (r : Int)) = P) := eP
        clear eP
        cases P <;> cases L <;> cases D
        all_goals
          have en := EN.out
          rw [EP.out] at en
          have r0 := of_dec hP
          simp only [if_true, Bool.false_eq_true, if_false] at r0
          simp at en
          subst en
          clear EN
          first
          | (have HE : Hid ((i, r) = R) := by have := HS.out; rw [if_pos rfl] at this; exact this
             clear HS
             go_wp2_with (first | (go_at_call 99; refine (Hid.out HLET).mono ?_; rintro e w' ⟨rfl, hw⟩; subst w') | (go_at_call 54; refine (Hid.out HDIG).mono ?_; rintro e w' ⟨rfl, hw⟩; subst w'))
             go_ret2
             exact ⟨by rw [← HE.out]; rfl, rfl⟩)
          | (have HE : Hid (nameRun s f (i + 1) (r + 1) = R) := by have := HS.out; rw [if_neg (by decide)] at this; exact this
             clear HS
             go_wp2_with (first | (go_at_call 99; refine (Hid.out HLET).mono ?_; rintro e w' ⟨rfl, hw⟩; subst w') | (go_at_call 54; refine (Hid.out HDIG).mono ?_; rintro e w' ⟨rfl, hw⟩; subst w'))
             go_round
             case rel => exact ⟨f, i + 1, r + 1, by go_num, by go_num, by omega, by omega, by omega, HE⟩
             case measure => simp [intOf]; omega)
    · have hii : i = s.size := by omega
      have HE : Hid ((i, r) = R) := by have := HR.out; rw [nameRun_end s f i r hlt] at this; exact this
      have hlt' : ¬ (i : Int) < (s.size : Int) := by omega
      clear hii
      go_wp2
      go_ret2
      exact ⟨by rw [← HE.out]; rfl, rfl⟩

theorem rest_size (s : ByteArray) (i : Nat) (h : i ≤ s.size) : (s.extract i s.size).size = s.size - i := by simp
theorem rest_bt (s : ByteArray) (i j k : Nat) (hi : i ≤ s.size) : bt (s.extract i s.size) j k = bt s (i + j) k := by
  unfold bt
  congr 1
  by_cases h : i + j + k < s.size
  · have h2 : j + k < (s.extract i s.size).size := by rw [rest_size s i hi]; omega
    simp only [ByteArray.get!]
    have e1 : (s.extract i s.size).data = s.data.extract i s.size := by simp
    rw [e1, getElem!_pos (s.data.extract i s.size) (j + k) (by simp at h2 ⊢; omega), getElem!_pos s.data (i + j + k) (by simpa using h)]
    simp [Nat.add_assoc]
  · have h2 : ¬ j + k < (s.extract i s.size).size := by rw [rest_size s i hi]; omega
    simp only [ByteArray.get!]
    have e1 : (s.extract i s.size).data = s.data.extract i s.size := by simp
    rw [e1, getElem!_neg (s.data.extract i s.size) (j + k) (by simp at h2 ⊢; omega), getElem!_neg s.data (i + j + k) (by simpa using h)]
theorem rest_tail (s : ByteArray) (i j : Nat) (hi : i ≤ s.size) : ∀ (f k : Nat) (lo hh : Int), tailOk (s.extract i s.size) j f k lo hh = tailOk s (i + j) f k lo hh
  | 0, _, _, _ => by rw [tail_nil, tail_nil]
  | f + 1, k, lo, hh => by
    rw [tail_bt, tail_bt, rest_bt s i j k hi, rest_tail s i j hi f, rest_size s i hi]
    congr 2
    rw [decide_eq_decide]
    omega
theorem rest_step (s : ByteArray) (i j : Nat) (b : Bool) (hi : i ≤ s.size) : stepN (s.extract i s.size) j b = stepN s (i + j) b := by
  unfold stepN runeN tailLen
  simp only [rest_bt s i j 0 hi, rest_tail s i j hi]
theorem rest_run (s : ByteArray) (i : Nat) (hi : i ≤ s.size) : ∀ (f g j r : Nat), s.size ≤ i + j + f → s.size ≤ i + j + g → i + j ≤ s.size → nameRun s f (i + j) r = (i + (nameRun (s.extract i s.size) g j r).1, (nameRun (s.extract i s.size) g j r).2)
  | f, g, j, r, hf, hg, hj => by
    by_cases h : i + j < s.size
    · obtain ⟨f, rfl⟩ : ∃ q, f = q + 1 := ⟨f - 1, by omega⟩
      obtain ⟨g, rfl⟩ : ∃ q, g = q + 1 := ⟨g - 1, by omega⟩
      have hx : j < (s.extract i s.size).size := by rw [rest_size s i hi]; omega
      have e1 : nameRun s (f + 1) (i + j) r = if stepN s (i + j) (decide (r = 0)) = 0 then (i + j, r) else nameRun s f (i + j + stepN s (i + j) (decide (r = 0))) (r + 1) := by rw [nameRun, if_pos h]
      have e2 : nameRun (s.extract i s.size) (g + 1) j r = if stepN s (i + j) (decide (r = 0)) = 0 then (j, r) else nameRun (s.extract i s.size) g (j + stepN s (i + j) (decide (r = 0))) (r + 1) := by rw [nameRun, if_pos hx, rest_step s i j _ hi]
      rw [e1, e2]
      by_cases z : stepN s (i + j) (decide (r = 0)) = 0
      · simp only [if_pos z]
      · simp only [if_neg z]
        have l := (step_le s (i + j) (decide (r = 0)) h).1
        have := rest_run s i hi f g (j + stepN s (i + j) (decide (r = 0))) (r + 1) (by omega) (by omega) (by omega)
        rw [← this, Nat.add_assoc]
    · rw [nameRun_end s f _ _ h, nameRun_end _ g _ _ (by rw [rest_size s i hi]; omega)]
  termination_by f => f
theorem rest_list (s : ByteArray) (i : Nat) : (s.extract i s.size).data.toList = s.data.toList.drop i := by
  simp [List.take_of_length_le]
theorem clone68 (s : ByteArray) (w : World) (hs : s.size ≤ 1048576) : Calls Tryd.prog 68 #[.string s] w fun e w' => e = .returned (.string s) ∧ Below w.heap.size w w' := by
  have h := Tryd.stringslite_Clone s w (by omega)
  go_enter Tryd.func68, Tryd.ntmps68
  go_wp2_with (go_at_call 107; refine h.mono ?_; rintro e w1 ⟨rfl, b1⟩)
  go_ret
  exact ⟨rfl, b1⟩
/-- How long the rest of a line is. -/
def lineL (l : List UInt8) : Nat := if 0 ≤ Lib.indexByte l 10 then (Lib.indexByte l 10).toNat else l.length
theorem line64 (s : ByteArray) (w : World) (hs : s.size ≤ 1048576) : Calls Tryd.prog 64 #[.string s] w fun e w' => e = .returned (.int .i64 (lineL s.data.toList : Nat)) ∧ w' = w := by
  have h := Tryd.strings_IndexByte s 10 w
  have e10 : (10 : Int).toNat.toUInt8 = 10 := rfl
  rw [e10] at h
  have hl : s.data.toList.length = s.size := by simp
  unfold lineL
  rw [hl]
  obtain ⟨q, hq⟩ : ∃ q, Lib.indexByte s.data.toList 10 = q := ⟨_, rfl⟩
  rw [hq] at h ⊢
  have H : Hid (Calls Tryd.prog 63 #[.string s, .int .u8 10] w fun e w' => e = .returned (.int .i64 q) ∧ w' = w) := h
  clear h hq hl
  by_cases c : 0 ≤ q
  · rw [if_pos c]
    have e : ((q.toNat : Nat) : Int) = q := by omega
    rw [e]
    go_enter Tryd.func64, Tryd.ntmps64
    go_wp2_with (go_at_call 63; refine (Hid.out H).mono ?_; rintro e w1 ⟨rfl, hw⟩; subst w1)
    go_ret
    exact ⟨rfl, rfl⟩
  · rw [if_neg c]
    have hs' : (s.size : Int) ≤ 1048576 := by omega
    go_enter Tryd.func64, Tryd.ntmps64
    go_wp2_with (go_at_call 63; refine (Hid.out H).mono ?_; rintro e w1 ⟨rfl, hw⟩; subst w1)
    go_ret
    exact ⟨rfl, rfl⟩
/-- What readName answers: kind, length, fault. -/
def nameKd (s : ByteArray) : Int := if 20 < (nameRun s s.size 0 0).2 then 1 else if isIn (textAt wordsL) (s.extract 0 (nameRun s s.size 0 0).1) 13 = true then 5 else 1
def nameCd (s : ByteArray) : Int := if 20 < (nameRun s s.size 0 0).2 then 3 else 0
theorem run_le (s : ByteArray) : ∀ (f i r : Nat), i ≤ s.size → (nameRun s f i r).1 ≤ s.size ∧ i ≤ (nameRun s f i r).1 ∧ (nameRun s f i r).2 ≤ r + f
  | 0, i, r, h => ⟨h, Nat.le_refl _, by simp [nameRun]⟩
  | f + 1, i, r, h => by
    rw [nameRun]
    by_cases h1 : i < s.size
    · rw [if_pos h1]
      by_cases z : stepN s i (decide (r = 0)) = 0
      · rw [if_pos z]; exact ⟨h, Nat.le_refl _, by show r ≤ r + (f + 1); omega⟩
      · rw [if_neg z]
        have l := (step_le s i (decide (r = 0)) h1).1
        have := run_le s f (i + stepN s i (decide (r = 0))) (r + 1) l
        exact ⟨this.1, by omega, by omega⟩
    · rw [if_neg h1]; exact ⟨h, Nat.le_refl _, by show r ≤ r + (f + 1); omega⟩
set_option maxHeartbeats 1000000 in
theorem name66 (s : ByteArray) (w : World) (hs : s.size ≤ 1048576) : Calls Tryd.prog 66 #[.string s] w fun e w' => e = .returned (.tuple #[.int .i64 (nameKd s), .int .i64 ((nameRun s s.size 0 0).1 : Nat), .int .i64 (nameCd s)]) ∧ Below w.heap.size w w' := by
  have ha := ahead18 s w hs
  have hl := run_le s s.size 0 0 (Nat.zero_le _)
  unfold nameKd nameCd
  obtain ⟨A, hA⟩ : ∃ A, (nameRun s s.size 0 0).1 = A := ⟨_, rfl⟩
  obtain ⟨R, hR⟩ : ∃ A, (nameRun s s.size 0 0).2 = A := ⟨_, rfl⟩
  rw [hA, hR] at ha hl ⊢
  have HA : Hid (Calls Tryd.prog 104 #[.string s] w fun r w' => r = .returned (.tuple #[.int .i64 (A : Nat), .int .i64 (R : Nat)]) ∧ Below w.heap.size w w') := ha
  clear ha hA hR
  obtain ⟨x, hx⟩ : ∃ x, s.extract 0 A = x := ⟨_, rfl⟩
  rw [hx]
  have HX : Hid (s.extract 0 A = x) := hx
  obtain ⟨I, hI⟩ : ∃ I, isIn (textAt wordsL) x 13 = I := ⟨_, rfl⟩
  have HW : Hid (∀ w1, Calls Tryd.prog 105 #[.string x] w1 fun r w' => r = .returned (.bool I) ∧ Below w1.heap.size w1 w') := fun w1 => by rw [← hI]; exact word19 x w1
  rw [hI]
  have a0 : (0 : Int) ≤ (A : Int) := by omega
  have a1 : (A : Int) ≤ (s.size : Int) := by omega
  have r1 : (R : Int) ≤ 1048576 := by omega
  clear hI hx
  by_cases c : 20 < R
  · have c' : (20 : Int) < (R : Int) := by omega
    rw [if_pos c, if_pos c]
    go_enter Tryd.func66, Tryd.ntmps66
    go_wp2_with (go_at_call 104; refine (Hid.out HA).mono ?_; rintro e w1 ⟨rfl, B1⟩)
    go_ret3
    exact ⟨rfl, B1⟩
  · have c' : ¬ (20 : Int) < (R : Int) := by omega
    rw [if_neg c, if_neg c]
    cases I
    all_goals
      go_enter Tryd.func66, Tryd.ntmps66
      go_wp2_with (first | (go_at_call 104; refine (Hid.out HA).mono ?_; rintro e w1 ⟨rfl, B1⟩) | (go_at_call 105; (try simp only [Int.toNat_natCast]); rw [HX.out]; refine ((Hid.out HW) w1).mono ?_; rintro e w2 ⟨rfl, B2⟩))
      go_ret3
      exact ⟨rfl, step_b B1 B2⟩
end Go.Proofs.YtpildklndfgojaaDoor.Tk
