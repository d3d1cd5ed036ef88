/- The model's l3Value of a float's text. -/
import Derived.Test.YtpildklndfgojaaDoorFlt
namespace Go.Proofs.YtpildklndfgojaaDoor.Tk
open Go.ChangeShapes Go.WideShapes Go.ChangeAt Go.RowKit
set_option linter.unusedVariables false
/-- Where the model stands in a float's text. -/
def St (A B : List UInt8) (i : Nat) (pt : Bool) (X Y : Int) : Prop :=
  (pt = false ∧ ∃ q r, A = q ++ r ∧ i = q.length ∧ X = (valF 0 q : Int) ∧ Y = 1) ∨ (pt = true ∧ ∃ q r, B = q ++ r ∧ i = A.length + 1 + q.length ∧ X = (valF 0 (A ++ q) : Int) ∧ Y = ((10 ^ q.length : Nat) : Int))
theorem byte_of (s : ByteArray) (i : Nat) (x : UInt8) (h : s.data.toList[i]? = some x) : ∃ hi : i < s.size, (s[i]'hi).toNat = x.toNat := by
  have len : s.data.toList.length = s.size := by simp
  obtain ⟨h1, h2⟩ := List.getElem?_eq_some_iff.1 h
  refine ⟨by rw [← len]; exact h1, ?_⟩
  rw [← h2]
  simp
  rfl
theorem pre_lt (l : List UInt8) (n : Nat) (h : ∀ x ∈ l, isDig x = true) (hn : l.length ≤ n) (k : Nat) (hk : 10 ^ n ≤ k) : valF 0 l < k := by
  have := valF_lt l h
  have q : 10 ^ l.length ≤ 10 ^ n := Nat.pow_le_pow_right (by decide) hn
  omega
/-- One step of the model's loop. -/
theorem st_step (s : ByteArray) (A B : List UInt8) (hl : s.data.toList = A ++ 46 :: B) (dA : ∀ x ∈ A, isDig x = true) (dB : ∀ x ∈ B, isDig x = true) (la : A.length ≤ 9) (lb : B.length ≤ 9) (i : Nat) (pt : Bool) (X Y : Int) (h : St A B i pt X Y) :
    (0 ≤ X ∧ X < 1000000000000000000 ∧ 1 ≤ Y ∧ Y ≤ 1000000000) ∧
    ((i = s.size ∧ X = (valF 0 (A ++ B) : Int) ∧ Y = ((10 ^ B.length : Nat) : Int)) ∨
     (∃ hi : i < s.size, (s[i]'hi).toNat = 46 ∧ pt = false ∧ St A B (i + 1) true X Y) ∨
     (∃ (hi : i < s.size) (d : Nat), (s[i]'hi).toNat = 48 + d ∧ d ≤ 9 ∧ X < 100000000000000000 ∧ Y ≤ 100000000 ∧ St A B (i + 1) pt (X * 10 + (d : Int)) (if pt then Y * 10 else Y))) := by
  have len : s.size = A.length + 1 + B.length := by rw [size_list, hl]; simp; omega
  rcases h with ⟨rfl, q, r, rfl, rfl, rfl, rfl⟩ | ⟨rfl, q, r, rfl, rfl, rfl, rfl⟩
  · have dq : ∀ x ∈ q, isDig x = true := fun x hx => dA x (by simp [hx])
    have vq := pre_lt q 9 dq (by simp at la; omega) 1000000000 (by decide)
    refine ⟨by omega, ?_⟩
    cases r with
    | nil =>
      right; left
      obtain ⟨hi, e⟩ := byte_of s q.length 46 (by rw [hl]; simp)
      exact ⟨hi, e, rfl, Or.inr ⟨rfl, [], B, rfl, by simp, by simp, by simp⟩⟩
    | cons x r =>
      right; right
      obtain ⟨hi, e⟩ := byte_of s q.length x (by rw [hl]; simp)
      have hx := (dig_iff x).1 (dA x (by simp))
      refine ⟨hi, x.toNat - 48, by omega, by omega, by omega, by decide, Or.inl ⟨rfl, q ++ [x], r, by simp, by simp, ?_, by simp⟩⟩
      rw [valF_concat]
      omega
  · have dq : ∀ x ∈ A ++ q, isDig x = true := fun x hx => by
      simp only [List.mem_append] at hx
      rcases hx with hx | hx
      · exact dA x hx
      · exact dB x (by simp [hx])
    have lq : (A ++ q).length ≤ 18 := by simp at lb ⊢; omega
    have vq := pre_lt (A ++ q) 18 dq lq 1000000000000000000 (by decide)
    have pq : 10 ^ q.length ≤ 10 ^ 9 := Nat.pow_le_pow_right (by decide) (by simp at lb; omega)
    have pp : 1 ≤ 10 ^ q.length := Nat.one_le_pow _ _ (by decide)
    refine ⟨by omega, ?_⟩
    cases r with
    | nil =>
      left
      exact ⟨by rw [len]; simp, by simp, by simp⟩
    | cons x r =>
      right; right
      obtain ⟨hi, e⟩ := byte_of s (A.length + 1 + q.length) x (by
        rw [hl, List.getElem?_append_right (by omega), show A.length + 1 + q.length - A.length = q.length + 1 by omega, List.getElem?_cons_succ]
        simp)
      have hx := (dig_iff x).1 (dB x (by simp))
      have vq2 := pre_lt (A ++ q) 17 dq (by simp at lb ⊢; omega) 100000000000000000 (by decide)
      have pq2 : 10 ^ q.length ≤ 10 ^ 8 := Nat.pow_le_pow_right (by decide) (by simp at lb; omega)
      refine ⟨hi, x.toNat - 48, by omega, by omega, by omega, by omega, Or.inr ⟨rfl, q ++ [x], r, by simp, by simp; omega, ?_, ?_⟩⟩
      · rw [← List.append_assoc, valF_concat]
        omega
      · rw [if_pos rfl, List.length_append, List.length_singleton, Nat.pow_succ]
        omega
set_option maxHeartbeats 4000000 in
theorem value78 (s : ByteArray) (A B : List UInt8) (w : World) (hl : s.data.toList = A ++ 46 :: B) (dA : ∀ x ∈ A, isDig x = true) (dB : ∀ x ∈ B, isDig x = true) (la : A.length ≤ 9) (lb : B.length ≤ 9) (R : Int) (r0 : 0 ≤ R) (r1 : R < 4294967296)
    (hz : valF 0 (A ++ B) = 0 → R = 0) (hT : valF 0 (A ++ B) ≠ 0 → ∀ v : World, Calls Tryd.prog 35 #[.agg #[.int .i64 (valF 0 (A ++ B) : Int), .bool false, .slice none 0 0, .int .i64 ((10 ^ B.length : Nat) : Int), .bool false, .slice none 0 0, .int .i64 0], .agg #[.int .i64 24, .int .i64 (-149), .int .i64 104], .int .i64 0] v fun e w' => e = .returned (.int .i64 R) ∧ Below v.heap.size v w') :
    Calls Tryd.prog 78 #[.string s] w fun r w' => r = .returned (.int .u32 R) ∧ Below w.heap.size w w' := by
  have len : s.size = A.length + 1 + B.length := by rw [size_list, hl]; simp; omega
  have hs' : (s.size : Int) ≤ 19 := by omega
  have ST : Hid (∀ (i : Nat) (pt : Bool) (X Y : Int), St A B i pt X Y → (0 ≤ X ∧ X < 1000000000000000000 ∧ 1 ≤ Y ∧ Y ≤ 1000000000) ∧
    ((i = s.size ∧ X = (valF 0 (A ++ B) : Int) ∧ Y = ((10 ^ B.length : Nat) : Int)) ∨
     (∃ hi : i < s.size, (s[i]'hi).toNat = 46 ∧ pt = false ∧ St A B (i + 1) true X Y) ∨
     (∃ (hi : i < s.size) (d : Nat), (s[i]'hi).toNat = 48 + d ∧ d ≤ 9 ∧ X < 100000000000000000 ∧ Y ≤ 100000000 ∧ St A B (i + 1) pt (X * 10 + (d : Int)) (if pt then Y * 10 else Y)))) := fun i pt X Y h => st_step s A B hl dA dB la lb i pt X Y h
  have S0 : Hid (St A B 0 false 0 1) := Or.inl ⟨rfl, [], A, rfl, rfl, by rw [valF_nil]; rfl, rfl⟩
  obtain ⟨NN, hNN⟩ : ∃ NN, valF 0 (A ++ B) = NN := ⟨_, rfl⟩
  obtain ⟨DD, hDD⟩ : ∃ DD, 10 ^ B.length = DD := ⟨_, rfl⟩
  rw [hNN, hDD] at ST
  rw [hNN] at hz hT
  rw [hDD] at hT
  have HT : Hid (NN ≠ 0 → ∀ v : World, Calls Tryd.prog 35 #[.agg #[.int .i64 (NN : Int), .bool false, .slice none 0 0, .int .i64 (DD : Int), .bool false, .slice none 0 0, .int .i64 0], .agg #[.int .i64 24, .int .i64 (-149), .int .i64 104], .int .i64 0] v fun e w' => e = .returned (.int .i64 R) ∧ Below v.heap.size v w') := hT
  have HZ : Hid (NN = 0 → R = 0) := hz
  clear hT hz hNN hDD hl dA dB
  have hR32 : IntKind.u32.wrap R = R := by rw [IntKind.wrap_u32]; omega
  go_enter Tryd.func78, Tryd.ntmps78
  go_wp2_with (first | (go_at_call 88; (with_reducible show Calls Tryd.prog 88 #[Value.int IntKind.i64 0] _ _); refine (zSmall 0 (by decide) (by decide) _).mono ?_; rintro e u1 ⟨rfl, k1⟩) | (go_at_call 88; refine (zSmall 1 (by decide) (by decide) _).mono ?_; rintro e u2 ⟨rfl, k2⟩))
  obtain ⟨W, hW⟩ : ∃ W, W = u2.alloc (.cells #[.int .i64 1, .bool false, .slice none 0 0] 66) := ⟨_, rfl⟩
  obtain ⟨b3, hb3⟩ : ∃ b, b = u1.heap.size := ⟨_, rfl⟩
  obtain ⟨b4, hb4⟩ : ∃ b, b = u2.heap.size := ⟨_, rfl⟩
  have zu1 := k1.size
  have zu2 := k2.size
  simp at zu2
  have lt34 : b3 < b4 := by omega
  have lw3 : w.heap.size ≤ b3 := by omega
  have lw4 : w.heap.size ≤ b4 := by omega
  have P0 : W.heap[b3]? = some (.cells #[.int .i64 0, .bool false, .slice none 0 0] 66 (0, 0)) := by
    rw [hW, Below.heap_alloc _ _ _ (by omega), hb3]
    exact (k2.block u1.heap.size (by simp)).trans (heap_alloc_new _ _)
  have Q0 : W.heap[b4]? = some (.cells #[.int .i64 1, .bool false, .slice none 0 0] 66 (0, 0)) := by
    rw [hW]; exact heap_alloc_at hb4
  have BW : Below w.heap.size w W := by
    rw [hW]
    exact ((k1.alloc k1.size _).trans (k2.mono (by simp; omega))).alloc (by omega) _
  have z0 : b4 < W.heap.size := by rw [hW]; simp; omega
  rw [← hW, ← hb3, ← hb4]
  clear hW hb3 hb4 k1 k2 zu1 zu2
  go_loopw [5, 6] (fun pv iv wr => ∃ (i : Nat) (pt : Bool) (X Y : Int), pv = .bool pt ∧ iv = .int .i64 i ∧ i ≤ s.size ∧ wr.heap[b3]? = some (.cells #[.int .i64 X, .bool false, .slice none 0 0] 66 (0, 0)) ∧ wr.heap[b4]? = some (.cells #[.int .i64 Y, .bool false, .slice none 0 0] 66 (0, 0)) ∧ b4 < wr.heap.size ∧ Below w.heap.size w wr ∧ Hid (St A B i pt X Y)) (fun _ iv _ => s.size - (intOf iv).toNat)
  case atStart => exact ⟨0, false, 0, 1, rfl, rfl, by omega, P0, Q0, z0, BW, S0⟩
  case round =>
    obtain ⟨i, pt, X, Y, rfl, rfl, hi, P0, Q0, z0, BK, HS⟩ := hrel
    obtain ⟨⟨x0, x1, y0, y1⟩, hc⟩ := ST.out i pt X Y HS.out
    obtain ⟨⟨pa0, pb0, pc0⟩, pd0, pe0, pf0⟩ := blk3 P0
    obtain ⟨⟨qa0, qb0, qc0⟩, qd0, qe0, qf0⟩ := blk3 Q0
    have i0 : (0 : Int) ≤ (i : Int) := by omega
    rcases hc with ⟨e1, rfl, rfl⟩ | ⟨hlt, e46, rfl, hS⟩ | ⟨hlt, d, ed, d9, xs, ys, hS⟩
    · have e1' : ¬ (i : Int) < (s.size : Int) := by omega
      clear ST HS
      have nx0 : -1000000000000000000 < (NN : Int) := by omega
      by_cases n0 : NN = 0
      · have HR0 : Hid (R = 0) := HZ.out n0
        subst n0
        have e0 : ((0 : Nat) : Int) = 0 := rfl
        rw [e0] at P0 pa0
        have ZZ := zero116 0 (by decide) (by decide)
        rw [show decide ((0 : Int) = 0) = true from rfl] at ZZ
        clear HT HZ
        go_wp2_with (go_at_call 116; refine (ZZ _).mono ?_; rintro e w1 ⟨rfl, h1⟩)
        go_ret
        exact ⟨by rw [HR0.out]; rfl, step_b BK h1⟩
      · have hd0 : decide ((NN : Int) = 0) = false := by simp; omega
        have ZZ := zero116 (NN : Int) nx0 x1
        rw [hd0] at ZZ
        have HTT : Hid (∀ v : World, Calls Tryd.prog 35 #[.agg #[.int .i64 (NN : Int), .bool false, .slice none 0 0, .int .i64 (DD : Int), .bool false, .slice none 0 0, .int .i64 0], .agg #[.int .i64 24, .int .i64 (-149), .int .i64 104], .int .i64 0] v fun e w' => e = .returned (.int .i64 R) ∧ Below v.heap.size v w') := HT.out n0
        clear HT HZ n0
        go_wp2_with (go_at_call 116; refine (ZZ _).mono ?_; rintro e w1 ⟨rfl, h1⟩; (have P1 := (h1.block b3 (by omega)).trans P0); (have Q1 := (h1.block b4 (by omega)).trans Q0); (have B1 := step_b BK h1); obtain ⟨⟨pa1, pb1, pc1⟩, _⟩ := blk3 P1; obtain ⟨⟨qa1, qb1, qc1⟩, _⟩ := blk3 Q1)
        clear pa0 pb0 pc0 pd0 pe0 pf0 qa0 qb0 qc0 qd0 qe0 qf0
        go_region_held3 (fun v => v.cell? ⟨b3, 0, none⟩ = some (.int .i64 (NN : Int)) ∧ v.cell? ⟨b3, 1, none⟩ = some (.bool false) ∧ v.cell? ⟨b3, 2, none⟩ = some (.slice none 0 0) ∧ v.cell? ⟨b4, 0, none⟩ = some (.int .i64 (DD : Int)) ∧ v.cell? ⟨b4, 1, none⟩ = some (.bool false) ∧ v.cell? ⟨b4, 2, none⟩ = some (.slice none 0 0)) (first | with_reducible exact ⟨pa2, pb2, pc2, qa2, qb2, qc2⟩ | exact ⟨(h3.cell (p := ⟨b3, 0, none⟩) (by show b3 < _; have := h1.size; have := h2'.size; omega)).trans pa2, (h3.cell (p := ⟨b3, 1, none⟩) (by show b3 < _; have := h1.size; have := h2'.size; omega)).trans pb2, (h3.cell (p := ⟨b3, 2, none⟩) (by show b3 < _; have := h1.size; have := h2'.size; omega)).trans pc2, (h3.cell (p := ⟨b4, 0, none⟩) (by show b4 < _; have := h1.size; have := h2'.size; omega)).trans qa2, (h3.cell (p := ⟨b4, 1, none⟩) (by show b4 < _; have := h1.size; have := h2'.size; omega)).trans qb2, (h3.cell (p := ⟨b4, 2, none⟩) (by show b4 < _; have := h1.size; have := h2'.size; omega)).trans qc2⟩ | with_reducible exact ⟨pa1, pb1, pc1, qa1, qb1, qc1⟩ | (go_keep; done)) (first | (go_at_call 37; refine (zWord _).mono ?_; rintro e w2 ⟨rfl, h2⟩; (have h2' : Below w1.heap.size w1 w2 := ⟨h2.os, h2.tape, h2.output, h2.size, h2.block⟩); (have P2 := (h2'.block b3 (by have := h1.size; omega)).trans P1); (have Q2 := (h2'.block b4 (by have := h1.size; omega)).trans Q1); (have B2 := step_b B1 h2'); obtain ⟨⟨pa2, pb2, pc2⟩, _⟩ := blk3 P2; obtain ⟨⟨qa2, qb2, qc2⟩, _⟩ := blk3 Q2) | (go_at_call 35; refine ((Hid.out HTT) _).mono ?_; rintro e w3 ⟨rfl, h3⟩))
        all_goals go_wp2
        all_goals go_ret
        all_goals exact ⟨rfl, step_b B2 h3⟩
    · have i1 : (i : Int) < (s.size : Int) := by omega
      have hB : (((s[i]'hlt).toNat : Nat) : Int) = 46 := by omega
      have HS' : Hid (St A B (i + 1) true X Y) := hS
      have HLT : Hid (i < s.size) := hlt
      clear ST HS hS
      go_wp2
      go_roundw
      case rel => exact ⟨i + 1, true, X, Y, rfl, by go_num, by have := HLT.out; omega, P0, Q0, z0, BK, HS'⟩
      case measure => have := HLT.out; simp [intOf]; omega
    · have i1 : (i : Int) < (s.size : Int) := by omega
      obtain ⟨dv, hdv⟩ : ∃ dv : Int, dv = (d : Int) := ⟨_, rfl⟩
      have hB : (((s[i]'hlt).toNat : Nat) : Int) = 48 + dv := by omega
      have dv0 : 0 ≤ dv := by omega
      have dv9 : dv ≤ 9 := by omega
      have n46 : ((48 + dv) == 46) = false := by simp; omega
      have w8 : IntKind.u8.wrap (48 + dv - 48) = dv := by rw [IntKind.wrap_u8]; omega
      have HS' : Hid (St A B (i + 1) pt (X * 10 + dv) (if pt then Y * 10 else Y)) := by show St A B (i + 1) pt (X * 10 + dv) (if pt then Y * 10 else Y); rw [hdv]; exact hS
      have wd : IntKind.i64.wrap dv = dv := by rw [IntKind.wrap_i64]; omega
      have HLT : Hid (i < s.size) := hlt
      clear ST HS hS hdv ed
      go_wp2
      go_cut [5] (fun pv wx => pv = .bool pt ∧ wx.heap[b3]? = some (.cells #[.int .i64 (X * 10 + dv), .bool false, .slice none 0 0] 66 (0, 0)) ∧ wx.heap[b4]? = some (.cells #[.int .i64 Y, .bool false, .slice none 0 0] 66 (0, 0)) ∧ b4 < wx.heap.size ∧ Below w.heap.size w wx)
      case first =>
        go_region_with (first | (go_at_call 88; (with_reducible show Calls Tryd.prog 88 #[Value.int IntKind.i64 10] _ _); refine (zSmall 10 (by decide) (by decide) _).mono ?_; rintro e w1 ⟨rfl, h1⟩; (have h1' : Below wr.heap.size wr w1 := ⟨h1.os, h1.tape, h1.output, h1.size, h1.block⟩); (have P1 := (h1'.block b3 (by omega)).trans P0); (have Q1 := (h1'.block b4 (by omega)).trans Q0); (have z1 := h1'.size); obtain ⟨⟨pa1, pb1, pc1⟩, pd1, pe1, pf1⟩ := blk3 P1; obtain ⟨⟨qa1, qb1, qc1⟩, qd1, qe1, qf1⟩ := blk3 Q1) | (go_at_call 115; refine (mul115 X 10 (by omega) (by omega) (by decide) (by decide) (by omega) (by omega) _).mono ?_; rintro e w2 ⟨rfl, h2⟩; (have h2' : Below w1.heap.size w1 w2 := ⟨h2.os, h2.tape, h2.output, h2.size, h2.block⟩); (have P2 := (h2'.block b3 (by omega)).trans P1); (have Q2 := (h2'.block b4 (by omega)).trans Q1); (have z2 := h2'.size); obtain ⟨⟨pa2, pb2, pc2⟩, pd2, pe2, pf2⟩ := blk3 P2; obtain ⟨⟨qa2, qb2, qc2⟩, qd2, qe2, qf2⟩ := blk3 Q2) | (go_at_call 88; (try rw [wd]); refine (zSmall dv (by omega) (by omega) _).mono ?_; rintro e w3 ⟨rfl, h3⟩; (have h3' : Below w2.heap.size w2 w3 := ⟨h3.os, h3.tape, h3.output, h3.size, h3.block⟩); (have P3 := (h3'.block b3 (by omega)).trans P2); (have Q3 := (h3'.block b4 (by omega)).trans Q2); (have z3 := h3'.size); obtain ⟨⟨pa3, pb3, pc3⟩, pd3, pe3, pf3⟩ := blk3 P3; obtain ⟨⟨qa3, qb3, qc3⟩, qd3, qe3, qf3⟩ := blk3 Q3) | (go_at_call 114; refine (add114 (X * 10) dv (by omega) (by omega) (by omega) (by omega) (by omega) (by omega) _).mono ?_; rintro e w4 ⟨rfl, h4⟩; (have h4' : Below w3.heap.size w3 w4 := ⟨h4.os, h4.tape, h4.output, h4.size, h4.block⟩); (have P4 := (h4'.block b3 (by omega)).trans P3); (have Q4 := (h4'.block b4 (by omega)).trans Q3); (have z4 := h4'.size); obtain ⟨⟨pa4, pb4, pc4⟩, pd4, pe4, pf4⟩ := blk3 P4; obtain ⟨⟨qa4, qb4, qc4⟩, qd4, qe4, qf4⟩ := blk3 Q4))
        all_goals go_wp2_with fail
        all_goals go_meet
        all_goals exact ⟨rfl, set3 P4, (set3_ne (by omega)).trans Q4, by simp; omega, (((step_b (step_b (step_b (step_b BK h1') h2') h3') h4').setCell lw3 _).setCell lw3 _).setCell lw3 _⟩
      case rest =>
        clear pa0 pb0 pc0 pd0 pe0 pf0 qa0 qb0 qc0 qd0 qe0 qf0 P0 Q0 z0 BK
        obtain ⟨rfl, P0, Q0, z0, BK⟩ := hcut
        obtain ⟨⟨pa0, pb0, pc0⟩, pd0, pe0, pf0⟩ := blk3 P0
        obtain ⟨⟨qa0, qb0, qc0⟩, qd0, qe0, qf0⟩ := blk3 Q0
        cases pt
        · go_wp2
          go_roundw
          case rel => exact ⟨i + 1, false, X * 10 + dv, Y, rfl, by go_num, by have := HLT.out; omega, P0, Q0, z0, BK, HS'⟩
          case measure => have := HLT.out; simp [intOf]; omega
        · go_wp2
          go_region_with (first | (go_at_call 88; refine (zSmall 10 (by decide) (by decide) _).mono ?_; rintro e w1 ⟨rfl, h1⟩; (have h1' : Below wc.heap.size wc w1 := ⟨h1.os, h1.tape, h1.output, h1.size, h1.block⟩); (have P1 := (h1'.block b3 (by omega)).trans P0); (have Q1 := (h1'.block b4 (by omega)).trans Q0); (have z1 := h1'.size); obtain ⟨⟨pa1, pb1, pc1⟩, pd1, pe1, pf1⟩ := blk3 P1; obtain ⟨⟨qa1, qb1, qc1⟩, qd1, qe1, qf1⟩ := blk3 Q1) | (go_at_call 115; refine (mul115 Y 10 (by omega) (by omega) (by decide) (by decide) (by omega) (by omega) _).mono ?_; rintro e w2 ⟨rfl, h2⟩; (have h2' : Below w1.heap.size w1 w2 := ⟨h2.os, h2.tape, h2.output, h2.size, h2.block⟩); (have P2 := (h2'.block b3 (by omega)).trans P1); (have Q2 := (h2'.block b4 (by omega)).trans Q1); (have z2 := h2'.size); obtain ⟨⟨pa2, pb2, pc2⟩, pd2, pe2, pf2⟩ := blk3 P2; obtain ⟨⟨qa2, qb2, qc2⟩, qd2, qe2, qf2⟩ := blk3 Q2))
          all_goals
            go_wp2
            go_roundw
            case rel => exact ⟨i + 1, true, X * 10 + dv, Y * 10, rfl, by go_num, by have := HLT.out; omega, (set3_ne (by omega)).trans P2, set3 Q2, by simp; omega, (((step_b (step_b BK h1') h2').setCell lw4 _).setCell lw4 _).setCell lw4 _, HS'⟩
            case measure => have := HLT.out; simp [intOf]; omega
end Go.Proofs.YtpildklndfgojaaDoor.Tk
