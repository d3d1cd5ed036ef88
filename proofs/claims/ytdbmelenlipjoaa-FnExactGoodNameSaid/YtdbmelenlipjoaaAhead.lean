/- Contracts of strings.HasPrefix, of the program's isBroken and nameAhead; conditions: texts at most 2^20 long. -/
import Derived.Test.YtdbmelenlipjoaaRun
namespace Go.Proofs.Ytdbmelenlipjoaa
open Go.ChangeShapes Go.WideShapes Go.ChangeAt Go.RowKit
set_option linter.unusedVariables false
def preB (s p : ByteArray) : Bool := if p.size ≤ s.size then ((s.extract 0 p.size).toList == p.toList) else false
theorem cut3 (s : ByteArray) (i : Nat) (h : i + 2 < s.size) : ((s.extract i s.size).extract 0 3).data.toList = [s[i]'(by omega), s[i + 1]'(by omega), s[i + 2]'h] := by
  apply List.ext_getElem
  · rw [Array.length_toList, ByteArray.size_data, ByteArray.size_extract, ByteArray.size_extract]
    show _ = 3
    omega
  · intro k h1 h2
    simp at h2
    rcases (by omega : k = 0 ∨ k = 1 ∨ k = 2) with rfl | rfl | rfl <;> simp <;> rfl
theorem pre_rune (s : ByteArray) (i : Nat) (hi : i ≤ s.size) : preB (s.extract i s.size) ⟨#[239, 191, 189]⟩ = decide (i + 2 < s.size ∧ bt s i 0 = 239 ∧ bt s i 1 = 191 ∧ bt s i 2 = 189) := by
  have hz : (s.extract i s.size).size = s.size - i := by simp
  unfold preB
  rw [show (⟨#[239, 191, 189]⟩ : ByteArray).size = 3 from rfl, hz]
  by_cases h : i + 2 < s.size
  · rw [if_pos (by omega), ByteArray.toList_eq, ByteArray.toList_eq, cut3 s i h]
    have e0 := bt_eq s i 0 (by omega)
    have e1 := bt_eq s i 1 (by omega)
    have e2 := bt_eq s i 2 (by omega)
    rw [Bool.eq_iff_iff, ← e0, ← e1, ← e2]
    simp [h, ← UInt8.toNat_inj]
  · rw [if_neg (by omega)]; simp [h]
set_option maxHeartbeats 1000000 in
theorem prefix28 (s p : ByteArray) (w : World) : Calls Try.prog 28 #[.string s, .string p] w fun e w' => e = .returned (.bool (preB s p)) ∧ w' = w := by
  obtain ⟨R, hR⟩ : ∃ R, preB s p = R := ⟨_, rfl⟩
  rw [hR]
  have HR : Hid (preB s p = R) := hR
  clear hR
  go_enter Try.func28, Try.ntmps28
  go_wp2
  · rename_i h
    go_ret
    refine ⟨?_, rfl⟩
    rw [← HR.out]; unfold preB
    show Ending.returned (Value.bool ((s.extract 0 p.size).toList == p.toList)) = _
    rw [if_pos (by omega)]
  · rename_i h
    go_ret
    refine ⟨?_, rfl⟩
    rw [← HR.out]; unfold preB
    show Ending.returned (Value.bool false) = _
    rw [if_neg (by omega)]
theorem prefix26 (s p : ByteArray) (w : World) : Calls Try.prog 26 #[.string s, .string p] w fun e w' => e = .returned (.bool (preB s p)) ∧ w' = w := by
  go_enter Try.func26, Try.ntmps26
  go_wp2_with (go_at_call 28; refine (prefix28 _ _ _).mono ?_; rintro e w' ⟨rfl, hw⟩; subst w')
  go_ret
  exact ⟨rfl, rfl⟩
theorem whole24 (s : ByteArray) (r : Int) (w : World) (h : ¬ r = 65533) : Calls Try.prog 24 #[.string s, .int .i32 r] w fun e w' => e = .returned (.bool false) ∧ w' = w := by
  have h' : (r == 65533) = false := by simpa using h
  go_enter Try.func24, Try.ntmps24
  go_wp2
  go_ret
  exact ⟨rfl, rfl⟩
theorem broken24 (s : ByteArray) (B : Bool) (w : World) (h : preB s ⟨#[239, 191, 189]⟩ = B) : Calls Try.prog 24 #[.string s, .int .i32 65533] w fun e w' => e = .returned (.bool (!B)) ∧ w' = w := by
  have HP : Hid (Calls Try.prog 26 #[.string s, .string ⟨#[239, 191, 189]⟩] w fun e w' => e = .returned (.bool B) ∧ w' = w) := by have := prefix26 s ⟨#[239, 191, 189]⟩ w; rw [h] at this; exact this
  clear h
  go_enter Try.func24, Try.ntmps24
  go_wp2_with (go_at_call 26; refine (Hid.out HP).mono ?_; rintro e w' ⟨rfl, hw⟩; subst w')
  go_ret
  exact ⟨rfl, rfl⟩
/-- What a round of the program's loop does: goes on by as many bytes as the rune has, or stops. -/
theorem step_cases (s : ByteArray) (i r : Nat) (h : i < s.size) (hz : i = 0 ↔ r = 0) (w : World) :
    (stepN s i (decide (r = 0)) = 0 ∧ runB (Utf8.decode s i).1 (decide (i = 0)) = false) ∨
    (stepN s i (decide (r = 0)) = 0 ∧ runB (Utf8.decode s i).1 (decide (i = 0)) = true ∧ Calls Try.prog 24 #[.string (s.extract i s.size), .int .i32 (Utf8.decode s i).1] w fun e w' => e = .returned (.bool true) ∧ w' = w) ∨
    (stepN s i (decide (r = 0)) = (Utf8.decode s i).2 ∧ 0 < (Utf8.decode s i).2 ∧ runB (Utf8.decode s i).1 (decide (i = 0)) = true ∧ Calls Try.prog 24 #[.string (s.extract i s.size), .int .i32 (Utf8.decode s i).1] w fun e w' => e = .returned (.bool false) ∧ w' = w) := by
  have hp := pre_rune s i (by omega)
  by_cases h1 : 128 ≤ bt s i 0
  · obtain ⟨q1, q2, q3, q4, q5⟩ := rune_decode s i h1
    have er : runB (Utf8.decode s i).1 (decide (i = 0)) = true := by
      unfold runB; rw [if_neg (by omega)]; simp; omega
    have es : stepN s i (decide (r = 0)) = if (Utf8.decode s i).2 = 1 then 0 else (Utf8.decode s i).2 := by
      unfold stepN; rw [if_pos h1, q1]; split <;> simp
    by_cases hb : (Utf8.decode s i).2 = 1
    · refine Or.inr (Or.inl ⟨by rw [es, if_pos hb], er, ?_⟩)
      have e1 := q2 hb
      have hq : ¬ (i + 2 < s.size ∧ bt s i 0 = 239 ∧ bt s i 1 = 191 ∧ bt s i 2 = 189) := fun hh => ((q5 e1).2 hh) hb
      rw [decide_eq_false hq] at hp
      rw [e1]
      exact broken24 _ false w hp
    · refine Or.inr (Or.inr ⟨by rw [es, if_neg hb], q3, er, ?_⟩)
      by_cases e1 : (Utf8.decode s i).1 = 65533
      · have hq := (q5 e1).1 hb
        rw [decide_eq_true hq] at hp
        rw [e1]
        exact broken24 _ true w hp
      · exact whole24 _ _ w (by omega)
  · have e0 := bt_eq s i 0 h
    have ed := decode_ascii s i h (by rw [show (s[i]'h).toNat = bt s i 0 from e0]; omega)
    have eb : (s[i]'h).toNat = bt s i 0 := e0
    rw [eb] at ed
    rw [ed]
    have b1 := bt_lt s i 0
    have ez : (!decide (r = 0)) = !decide (i = 0) := by rw [Bool.eq_iff_iff]; simp; omega
    have es : stepN s i (decide (r = 0)) = if runB (bt s i 0) (decide (i = 0)) = true then 1 else 0 := by
      unfold stepN; rw [if_neg h1, ez]
      congr 1
      unfold letB digB runB
      by_cases d : 48 ≤ ((bt s i 0 : Nat) : Int) ∧ ((bt s i 0 : Nat) : Int) ≤ 57
      · rw [if_pos d]
        simp
        omega
      · rw [if_neg d]
        simp
        omega
    by_cases hr : runB (bt s i 0) (decide (i = 0)) = true
    · exact Or.inr (Or.inr ⟨by rw [es, if_pos hr], by show 0 < 1; decide, hr, whole24 _ _ w (by show ¬ ((bt s i 0 : Nat) : Int) = 65533; omega)⟩)
    · exact Or.inl ⟨by rw [es, if_neg hr], by simpa using hr⟩
set_option maxRecDepth 100000 in
set_option maxHeartbeats 2000000 in
theorem ahead18 (s : ByteArray) (w : World) (hs : s.size ≤ 1048576) :
    Calls Try.prog 18 #[.string s] w fun r w' => r = .returned (.tuple #[.int .i64 ((nameRun s s.size 0 0).1 : Nat), .int .i64 ((nameRun s s.size 0 0).2 : Nat)]) ∧ Below w.heap.size w w' := by
  obtain ⟨R, hR⟩ : ∃ R, nameRun s s.size 0 0 = R := ⟨_, rfl⟩
  rw [hR]
  have HR0 : Hid (nameRun s s.size 0 0 = R) := hR
  clear hR
  have hs' : (s.size : Int) ≤ 1048576 := by omega
  have HB : Hid (∀ i, Below w.heap.size w (w.iter s i)) := fun i => (Below.refl _ _).alloc (Nat.le_refl _) _
  go_enter Try.func18, Try.ntmps18
  go_wp2
  go_loopw [4] (fun rv wr => ∃ f i r : Nat, rv = .int .i64 r ∧ wr = w.iter s i ∧ i ≤ s.size ∧ r ≤ i ∧ Hid (i = 0 ↔ r = 0) ∧ s.size ≤ i + f ∧ Hid (nameRun s f i r = R)) (fun _ wr => s.size - wr.iterPos w.heap.size)
  case atStart => exact ⟨s.size, 0, 0, rfl, rfl, by omega, by omega, Iff.rfl, by omega, HR0⟩
  case round =>
    obtain ⟨f, i, r, rfl, rfl, hi, hr, hz, hf, HR⟩ := hrel
    by_cases hlt : i < s.size
    · have hnx : ∀ ty, (Instr.next (.pointer (some ⟨w.heap.size, 0, none⟩)) true ty).run Try.prog (w.iter s i) = .ok (.tuple #[.bool true, .int .i64 i, .int .i32 (Utf8.decode s i).1]) (w.iter s (i + (Utf8.decode s i).2)) := fun ty => run_next_any w s i ty hlt
      have hsc := step_cases s i r hlt hz.out (w.iter s (i + (Utf8.decode s i).2))
      have hl := step_le s i (decide (r = 0)) hlt
      have hd1 := decode_le s i
      obtain ⟨f, rfl⟩ : ∃ g, f = g + 1 := ⟨f - 1, by omega⟩
      have i0 : (0 : Int) ≤ (i : Int) := by omega
      have i1 : (i : Int) ≤ (s.size : Int) := by omega
      obtain ⟨N, hN⟩ : ∃ N, stepN s i (decide (r = 0)) = N := ⟨_, rfl⟩
      rw [hN] at hl hsc
      have HS : Hid (if N = 0 then (i, r) = R else nameRun s f (i + N) (r + 1) = R) := by
        show if N = 0 then (i, r) = R else nameRun s f (i + N) (r + 1) = R
        have h := HR.out
        rw [nameRun, if_pos hlt, hN] at h
        split
        · rename_i h0; rw [if_pos h0] at h; exact h
        · rename_i h0; rw [if_neg h0] at h; exact h
      obtain ⟨D1, hD1⟩ : ∃ D, (Utf8.decode s i).1 = D := ⟨_, rfl⟩
      obtain ⟨D2, hD2⟩ : ∃ D, (Utf8.decode s i).2 = D := ⟨_, rfl⟩
      rw [hD1, hD2] at hsc hnx
      rw [hD1] at hd1
      have d0 : (0 : Int) ≤ (D1 : Int) := by omega
      have d1 : (D1 : Int) ≤ 2147483647 := by omega
      have HNR := nameRune23 (D1 : Int) (decide (i = 0)) (w.iter s (i + D2)) d0 d1
      obtain ⟨X, hX⟩ : ∃ X, s.extract i s.size = X := ⟨_, rfl⟩
      rw [hX] at hsc
      have HNRX : Hid (∀ b, runB D1 (decide (i = 0)) = b → Calls Try.prog 23 #[.int .i32 D1, .bool (decide (i = 0))] (w.iter s (i + D2)) fun e w' => e = .returned (.bool b) ∧ w' = w.iter s (i + D2)) := fun b hb => by rw [← hb]; exact HNR
      have HLT : Hid (i < s.size) := hlt
      clear hD1 hD2 hN HNR HR hlt
      obtain ⟨F, hF⟩ : ∃ F, decide (i = 0) = F := ⟨_, rfl⟩
      have zF : ((i : Int) == 0) = F := by rw [← hF, Bool.eq_iff_iff]; simp
      rw [hF] at hsc HNRX
      have HX : Hid (s.extract i s.size = X) := hX
      clear hF
      rcases hsc with ⟨n0, hrb⟩ | ⟨n0, hrb, hbr⟩ | ⟨n0, n1, hrb, hbr⟩
      · have HC := HNRX.out _ hrb
        have HE : Hid ((i, r) = R) := by have := HS.out; rw [if_pos n0] at this; exact this
        clear HS HNRX hrb n0
        go_wp2_with (first | (go_at_call 23; refine HC.mono ?_; rintro e w' ⟨rfl, hw⟩; subst w'))
        go_ret2
        exact ⟨by rw [← HE.out]; rfl, HB.out _⟩
      · have HC := HNRX.out _ hrb
        have HE : Hid ((i, r) = R) := by have := HS.out; rw [if_pos n0] at this; exact this
        clear HS HNRX hrb n0
        go_wp2_with (first | (go_at_call 23; refine HC.mono ?_; rintro e w' ⟨rfl, hw⟩; subst w') | (go_at_call 24; refine hbr.mono ?_; rintro e w' ⟨rfl, hw⟩; subst w'))
        go_ret2
        exact ⟨by rw [← HE.out]; rfl, HB.out _⟩
      · have HC := HNRX.out _ hrb
        have HE : Hid (nameRun s f (i + D2) (r + 1) = R) := by have := HS.out; rw [n0, if_neg (by omega)] at this; exact this
        have r1 : (r : Int) ≤ 1048576 := by omega
        clear HS HNRX hrb
        go_wp2_with (first | (go_at_call 23; refine HC.mono ?_; rintro e w' ⟨rfl, hw⟩; subst w') | (go_at_call 24; refine hbr.mono ?_; rintro e w' ⟨rfl, hw⟩; subst w'))
        go_roundw
        case rel => exact ⟨f, i + D2, r + 1, by go_num, rfl, by omega, by omega, by show _ ↔ _; omega, by omega, HE⟩
        case measure => rw [World.iterPos_iter, World.iterPos_iter]; have := HLT.out; omega
    · have hii : i = s.size := by omega
      have HE : Hid ((i, r) = R) := by have := HR.out; rw [nameRun_end s f i r hlt] at this; exact this
      have hnx : ∀ ty, (Instr.next (.pointer (some ⟨w.heap.size, 0, none⟩)) true ty).run Try.prog (w.iter s i) = .ok (.tuple #[.bool false]) (w.iter s i) := fun ty => run_next_end w s i ty hlt
      have HI : Hid (i = s.size) := hii
      clear hii
      go_wp2
      go_ret2
      exact ⟨by rw [← HE.out, ← HI.out]; rfl, HB.out _⟩
end Go.Proofs.Ytdbmelenlipjoaa
