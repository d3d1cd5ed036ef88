/- isFloat of the program, l3Float of the model. -/
import Derived.Test.YtpildklndfgojaaDoorNumI
import Derived.Test.YtpildklndfgojaaDoorNumS
import Derived.Test.YtpildklndfgojaaDoorNumF
import Derived.Lib.IndexBytes
import Derived.OwnWalk
namespace Go.Proofs.YtpildklndfgojaaDoor.Tk
open Go.ChangeShapes Go.WideShapes Go.ChangeAt Go.RowKit
set_option linter.unusedVariables false
theorem size_list (t : ByteArray) : t.size = t.data.toList.length := by simp
theorem trim128 (s : ByteArray) (w : World) :
    Calls Tryd.prog 128 #[.string s, .string ⟨#[48, 49, 50, 51, 52, 53, 54, 55, 56, 57]⟩] w fun e w' => ∃ t : ByteArray, e = .returned (.string t) ∧ t.size = s.size - dlen s.data.toList ∧ Below w.heap.size w w' :=
  (Tryd.strings_TrimLeft_laid s ⟨#[48, 49, 50, 51, 52, 53, 54, 55, 56, 57]⟩ w (by decide) (ascii_of_all (by decide))).mono fun e w' ⟨h1, h2⟩ =>
    ⟨_, h1, by
      rw [size_list]
      show (Lib.trimLeftS s.data.toList digits10).toArray.toList.length = _
      rw [List.toList_toArray, trim_digits, List.length_drop, ← size_list], h2⟩
theorem ahead103 (s : ByteArray) (w : World) (hs : s.size ≤ 1048576) :
    Calls Tryd.prog 103 #[.string s] w fun e w' => e = .returned (.int .i64 (dlen s.data.toList : Int)) ∧ Below w.heap.size w w' := by
  have le := dlen_le s.data.toList
  rw [← size_list] at le
  have hp := trim128 s w
  obtain ⟨d, hd⟩ : ∃ d, dlen s.data.toList = d := ⟨_, rfl⟩
  rw [hd] at hp le ⊢
  clear hd
  have hs' : (s.size : Int) ≤ 1048576 := by omega
  go_enter Tryd.func103, Tryd.ntmps103
  go_wp2_with (go_at_call 128; refine hp.mono ?_; rintro e w1 ⟨t, rfl, ht, b1⟩; (have ht' : (t.size : Int) = (s.size : Int) - (d : Int) := by omega))
  go_ret
  exact ⟨by
    show Ending.returned (Value.int IntKind.i64 _) = _
    congr 2
    first | omega | (simp only [wrap64]; omega) | (rw [IntKind.wrap_i64]; omega), b1⟩
theorem byte46 : ∀ l : List UInt8, Lib.indexByte l 46 = Lib.index l [46]
  | [] => rfl
  | c :: r => by
    have ih := byte46 r
    rw [Lib.indexByte, Lib.index, ih]
    have e : ([46].isPrefixOf (c :: r)) = (c == 46) := by
      simp only [List.isPrefixOf, Bool.and_true]
      rw [Bool.eq_iff_iff]
      simp only [beq_iff_eq]
      exact ⟨fun h => h.symm, fun h => h.symm⟩
    rw [e]
theorem cut117 (s : ByteArray) (w : World) (hs : s.size ≤ 1048576) :
    Calls Tryd.prog 117 #[.string s, .string ⟨#[46]⟩] w fun e w' => ∃ (a b : ByteArray) (c : Bool), e = .returned (.tuple #[.string a, .string b, .bool c]) ∧ a.data.toList = cutA s.data.toList ∧ b.data.toList = cutB s.data.toList ∧ Below w.heap.size w w' := by
  have hx := Tryd.stringslite_Index_one s 46 w
  rw [byte46] at hx
  have len := size_list s
  have hs' : (s.size : Int) ≤ 1048576 := by omega
  rcases index46 s.data.toList with ⟨h1, h2⟩ | ⟨a, b, hl, h2, h3⟩
  · rw [h1] at hx
    have ca : cutA s.data.toList = s.data.toList ∧ cutB s.data.toList = [] := by
      rcases cut46 s.data.toList with ⟨c, _⟩ | ⟨a, b, e, _, c⟩
      · unfold cutA cutB; rw [c]; exact ⟨rfl, rfl⟩
      · exact absurd (by rw [e]; simp) h2
    have CA : Hid (cutA s.data.toList = s.data.toList ∧ cutB s.data.toList = []) := ca
    clear ca h1 h2 len
    go_enter Tryd.func117, Tryd.ntmps117
    go_wp2_with (go_at_call 141; refine hx.mono ?_; rintro e w1 ⟨rfl, hw⟩; subst w1)
    go_ret3
    exact ⟨s, ⟨#[]⟩, false, rfl, CA.out.1.symm, CA.out.2.symm, Below.refl _ _⟩
  · rw [h3] at hx
    obtain ⟨ca, cb⟩ := cut_at a b h2
    have lt : a.length + 1 ≤ s.size := by rw [len, hl]; simp
    have xa : (s.extract 0 a.length).data.toList = cutA s.data.toList := by
      rw [hl, ca]
      rw [show (s.extract 0 a.length).data.toList = s.data.toList.take a.length by simp [ByteArray.data_extract], hl]
      simp
    have xb : (s.extract (a.length + 1) s.size).data.toList = cutB s.data.toList := by
      rw [hl, cb]
      rw [Lib.extract_to_end, hl]
      simp [List.drop_append]
    have XX : Hid ((s.extract 0 a.length).data.toList = cutA s.data.toList ∧ (s.extract (a.length + 1) s.size).data.toList = cutB s.data.toList) := ⟨xa, xb⟩
    obtain ⟨n, hn⟩ : ∃ n, a.length = n := ⟨_, rfl⟩
    rw [hn] at hx lt XX
    clear ca cb xa xb hl h2 h3 len hn
    have c1 : (0 : Int) ≤ (n : Int) := by omega
    have c2 : (n : Int) ≤ (s.size : Int) := by omega
    have c3 : (0 : Int) ≤ (n : Int) + 1 := by omega
    have c4 : (n : Int) + 1 ≤ (s.size : Int) := by omega
    go_enter Tryd.func117, Tryd.ntmps117
    go_wp2_with (go_at_call 141; refine hx.mono ?_; rintro e w1 ⟨rfl, hw⟩; subst w1)
    go_quiet (fail)
    go_wp2
    go_ret3
    exact ⟨s.extract 0 n, s.extract (n + 1) s.size, true, by first | rfl | (simp; done), XX.out.1, XX.out.2, below_drewN (Below.refl _ _) _⟩
theorem cut80 (s : ByteArray) (w : World) (hs : s.size ≤ 1048576) :
    Calls Tryd.prog 80 #[.string s, .string ⟨#[46]⟩] w fun e w' => ∃ (a b : ByteArray) (c : Bool), e = .returned (.tuple #[.string a, .string b, .bool c]) ∧ a.data.toList = cutA s.data.toList ∧ b.data.toList = cutB s.data.toList ∧ Below w.heap.size w w' := by
  have hx := cut117 s w hs
  go_enter Tryd.func80, Tryd.ntmps80
  go_wp2_with (go_at_call 117; refine hx.mono ?_; rintro e w1 ⟨a, b, c, rfl, ha, hb, b1⟩)
  go_ret3
  exact ⟨a, b, c, rfl, ha, hb, b1⟩
set_option maxHeartbeats 1000000 in
theorem float79 (s : ByteArray) (w : World) (hs : s.size ≤ 1048576) (hL : Lb w) :
    Calls Tryd.prog 79 #[.string s] w fun e w' => e = .returned (.bool (floatI s.data.toList)) ∧ Below w.heap.size w w' := by
  have hp := cut80 s w hs
  have cl : (cutA s.data.toList).length ≤ 1048576 ∧ (cutB s.data.toList).length ≤ 1048576 := by
    have := size_list s
    rcases cut46 s.data.toList with ⟨c, _⟩ | ⟨a, b, e, _, c⟩
    · unfold cutA cutB; rw [c]; simp; omega
    · have e2 := congrArg List.length e
      rw [List.length_append, List.length_cons] at e2
      unfold cutA cutB; rw [c]; simp only; omega
  have HL : Hid (Lb w) := hL
  clear hL
  obtain ⟨R, hR⟩ : ∃ R, floatI s.data.toList = R := ⟨_, rfl⟩
  rw [hR]
  unfold floatI at hR
  obtain ⟨A, hA⟩ : ∃ A, cutA s.data.toList = A := ⟨_, rfl⟩
  obtain ⟨B, hB⟩ : ∃ B, cutB s.data.toList = B := ⟨_, rfl⟩
  rw [hA, hB] at hp hR cl
  clear hA hB
  obtain ⟨na, hna⟩ : ∃ na, A.length = na := ⟨_, rfl⟩
  obtain ⟨nb, hnb⟩ : ∃ nb, B.length = nb := ⟨_, rfl⟩
  rw [hna, hnb] at hR cl
  have HN : Hid (A.length = na ∧ B.length = nb) := ⟨hna, hnb⟩
  clear hna hnb
  obtain ⟨W, hW⟩ : ∃ W, wholeI A = W := ⟨_, rfl⟩
  obtain ⟨d, hd⟩ : ∃ d, dlen B = d := ⟨_, rfl⟩
  rw [hW, hd] at hR
  have H1 : Hid (∀ (a : ByteArray) (v : World), a.data.toList = A → Lb v → Calls Tryd.prog 111 #[.string a] v fun e w' => e = .returned (.bool W) ∧ Below v.heap.size v w') := fun a v ha hv => by
    have := whole111 a v (by rw [size_list, ha, HN.out.1]; omega) hv
    rw [ha, hW] at this
    exact this
  have H2 : Hid (∀ (b : ByteArray) (v : World), b.data.toList = B → Calls Tryd.prog 103 #[.string b] v fun e w' => e = .returned (.int .i64 (d : Int)) ∧ Below v.heap.size v w') := fun b v hb => by
    have := ahead103 b v (by rw [size_list, hb, HN.out.2]; omega)
    rw [hb, hd] at this
    exact this
  clear hW hd
  have HP : Hid (Calls Tryd.prog 80 #[.string s, .string ⟨#[46]⟩] w fun e w' => ∃ (a b : ByteArray) (c : Bool), e = .returned (.tuple #[.string a, .string b, .bool c]) ∧ a.data.toList = A ∧ b.data.toList = B ∧ Below w.heap.size w w') := hp
  clear hp
  obtain ⟨E, hE⟩ : ∃ E, decide (B = []) = E := ⟨_, rfl⟩
  rw [hE] at hR
  have HE : Hid (decide (B = []) = E) := hE
  clear hE
  by_cases c1 : 9 < na ∨ 9 < nb
  · have r0 : R = false := by rw [← hR, decide_eq_true c1]; rfl
    subst r0
    clear hR
    have c1' : (decide ((9 : Int) < (na : Int)) || decide ((9 : Int) < (nb : Int))) = true := by
      rw [Bool.or_eq_true, decide_eq_true_eq, decide_eq_true_eq]; omega
    by_cases c2 : 9 < na
    · have c2' : decide ((9 : Int) < (na : Int)) = true := by simp; omega
      go_enter Tryd.func79, Tryd.ntmps79
      go_wp2_with (go_at_call 80; refine (Hid.out HP).mono ?_; rintro e w1 ⟨a, b, c, rfl, ha, hb, b1⟩; (have za : (a.size : Int) = (na : Int) := by rw [size_list, ha, HN.out.1]))
      go_ret
      exact ⟨rfl, b1⟩
    · have c2' : decide ((9 : Int) < (na : Int)) = false := by simp; omega
      have c3' : decide ((9 : Int) < (nb : Int)) = true := by simp; omega
      go_enter Tryd.func79, Tryd.ntmps79
      go_wp2_with (go_at_call 80; refine (Hid.out HP).mono ?_; rintro e w1 ⟨a, b, c, rfl, ha, hb, b1⟩; (have za : (a.size : Int) = (na : Int) := by rw [size_list, ha, HN.out.1]); (have zb : (b.size : Int) = (nb : Int) := by rw [size_list, hb, HN.out.2]))
      go_ret
      exact ⟨rfl, b1⟩
  · have c2' : decide ((9 : Int) < (na : Int)) = false := by simp; omega
    have c3' : decide ((9 : Int) < (nb : Int)) = false := by simp; omega
    rw [decide_eq_false c1] at hR
    cases W
    · have r0 : R = false := by rw [← hR]; rfl
      subst r0
      clear hR
      go_enter Tryd.func79, Tryd.ntmps79
      go_wp2_with (first | (go_at_call 80; refine (Hid.out HP).mono ?_; rintro e w1 ⟨a, b, c, rfl, ha, hb, b1⟩; (have za : (a.size : Int) = (na : Int) := by rw [size_list, ha, HN.out.1]); (have zb : (b.size : Int) = (nb : Int) := by rw [size_list, hb, HN.out.2])) | (go_at_call 111; refine ((Hid.out H1) a w1 ha (HL.out.next b1)).mono ?_; rintro e w2 ⟨rfl, b2⟩))
      go_ret
      exact ⟨rfl, step_b b1 b2⟩
    · cases E
      · by_cases q : d = nb
        · have q' : ((d : Int) == (nb : Int)) = true := by simp; omega
          have r0 : R = true := by rw [← hR, decide_eq_true q]; rfl
          subst r0
          clear hR
          go_enter Tryd.func79, Tryd.ntmps79
          go_wp2_with (first | (go_at_call 80; refine (Hid.out HP).mono ?_; rintro e w1 ⟨a, b, c, rfl, ha, hb, b1⟩; (have za : (a.size : Int) = (na : Int) := by rw [size_list, ha, HN.out.1]); (have zb : (b.size : Int) = (nb : Int) := by rw [size_list, hb, HN.out.2]); (have zc : (b.toList == []) = false := by rw [ByteArray.toList_eq, hb]; have := HE.out; simpa using this)) | (go_at_call 111; refine ((Hid.out H1) a w1 ha (HL.out.next b1)).mono ?_; rintro e w2 ⟨rfl, b2⟩) | (go_at_call 103; refine ((Hid.out H2) b w2 hb).mono ?_; rintro e w3 ⟨rfl, b3⟩))
          go_ret
          exact ⟨rfl, step_b (step_b b1 b2) b3⟩
        · have q' : ((d : Int) == (nb : Int)) = false := by simp; omega
          have r0 : R = false := by rw [← hR, decide_eq_false q]; rfl
          subst r0
          clear hR
          go_enter Tryd.func79, Tryd.ntmps79
          go_wp2_with (first | (go_at_call 80; refine (Hid.out HP).mono ?_; rintro e w1 ⟨a, b, c, rfl, ha, hb, b1⟩; (have za : (a.size : Int) = (na : Int) := by rw [size_list, ha, HN.out.1]); (have zb : (b.size : Int) = (nb : Int) := by rw [size_list, hb, HN.out.2]); (have zc : (b.toList == []) = false := by rw [ByteArray.toList_eq, hb]; have := HE.out; simpa using this)) | (go_at_call 111; refine ((Hid.out H1) a w1 ha (HL.out.next b1)).mono ?_; rintro e w2 ⟨rfl, b2⟩) | (go_at_call 103; refine ((Hid.out H2) b w2 hb).mono ?_; rintro e w3 ⟨rfl, b3⟩))
          go_ret
          exact ⟨rfl, step_b (step_b b1 b2) b3⟩
      · have r0 : R = false := by rw [← hR]; rfl
        subst r0
        clear hR
        go_enter Tryd.func79, Tryd.ntmps79
        go_wp2_with (first | (go_at_call 80; refine (Hid.out HP).mono ?_; rintro e w1 ⟨a, b, c, rfl, ha, hb, b1⟩; (have za : (a.size : Int) = (na : Int) := by rw [size_list, ha, HN.out.1]); (have zb : (b.size : Int) = (nb : Int) := by rw [size_list, hb, HN.out.2]); (have zc : (b.toList == []) = true := by rw [ByteArray.toList_eq, hb]; have := HE.out; simpa using this)) | (go_at_call 111; refine ((Hid.out H1) a w1 ha (HL.out.next b1)).mono ?_; rintro e w2 ⟨rfl, b2⟩))
        go_ret
        exact ⟨rfl, step_b b1 b2⟩
end Go.Proofs.YtpildklndfgojaaDoor.Tk
