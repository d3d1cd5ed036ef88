/- FloatOf of the program and of the model: both answer alike. -/
import Derived.Test.YtpildklndfgojaaDoorFltV
import Derived.Lib.OthersKept
import Derived.Lib.ParseIntB
import Derived.Deep.LoopGhost
namespace Go.Proofs.YtpildklndfgojaaDoor.Tk
open Go.ChangeShapes Go.WideShapes Go.ChangeAt Go.RowKit
set_option linter.unusedVariables false
theorem parseM_ok : ∀ (l : List UInt8) (a : Nat), (∀ b ∈ l, isDig b = true) → valF a l < 1844674407370955162 → Lib.parseUintM (2 ^ 64 - 1) a l = .ok (valF a l)
  | [], a, _, _ => by rw [valF_nil]; rfl
  | c :: r, a, h, hb => by
    have hc := (dig_iff c).1 (h c (by simp))
    have ih := parseM_ok r (a * 10 + (c.toNat - 48)) (fun b hb => h b (by simp [hb]))
    simp only [valF_cons] at hb ⊢
    have s := valF_split r (a * 10 + (c.toNat - 48))
    have p : 1 ≤ 10 ^ r.length := Nat.one_le_pow _ _ (by decide)
    have q : (a * 10 + (c.toNat - 48)) * 1 ≤ (a * 10 + (c.toNat - 48)) * 10 ^ r.length := Nat.mul_le_mul_left _ p
    have := ih hb
    simp only [Lib.parseUintM]
    rw [if_pos hc]
    repeat (rw [if_neg (by omega)])
    exact this
theorem parse81 (t : ByteArray) (l : List UInt8) (ht : t.data.toList = l) (h0 : l ≠ []) (h : ∀ b ∈ l, isDig b = true) (hl : l.length ≤ 18) (w : World) :
    Calls Tryd.prog 81 #[.string t, .int .i64 10, .int .i64 64] w fun e w' => e = .returned (.tuple #[.int .u64 (valF 0 l : Int), .nilIface]) ∧ Below w.heap.size w w' := by
  have hv := pre_lt l 18 h hl 1000000000000000000 (by decide)
  have hp : Lib.parseUintB 64 t.data.toList = .ok (valF 0 l) := by
    unfold Lib.parseUintB
    rw [ht, if_neg h0]
    exact parseM_ok l 0 h (by omega)
  exact (Tryd.strconv_ParseUint_10_at64_ok t (by rw [size_list, ht]; omega) _ hp w).mono fun e w' ⟨h1, h2⟩ => ⟨h1, by
    rcases h2 with rfl | rfl
    · exact Below.refl _ _
    · exact Lib.bytesWorld_below w 5 t⟩
theorem set4_1 {w : World} {b : Nat} {x0 x1 x2 x3 y : Value} {t : TypeId} (h : w.heap[b]? = some (.cells #[x0, x1, x2, x3] t (0, 0))) : (w.setCell ⟨b, 1, none⟩ y).heap[b]? = some (.cells #[x0, y, x2, x3] t (0, 0)) := by
  have hb : b < w.heap.size := lt_of_block h
  have e : w.heap[b] = .cells #[x0, x1, x2, x3] t (0, 0) := by
    have := Array.getElem?_eq_getElem hb
    rw [this] at h; exact Option.some.inj h
  simp [World.setCell, Array.getElem?_modify, h]
theorem cat_list (a b : ByteArray) : (a ++ b).data.toList = a.data.toList ++ b.data.toList := by simp
theorem o29_bad (s : ByteArray) (w : World) (hs : s.size ≤ 1048576) (hL : Lb w) (hf : floatI s.data.toList = false) :
    Calls Tryd.prog 29 #[.string s] w fun e w' => e = .returned (.tuple #[.int .u32 0, .bool false]) ∧ Below w.heap.size w w' := by
  have hp := float79 s w hs hL
  rw [hf] at hp
  clear hL hf
  go_enter Tryd.func29, Tryd.ntmps29
  go_wp2_with (go_at_call 79; refine hp.mono ?_; rintro e w1 ⟨rfl, b1⟩)
  go_ret2
  exact ⟨rfl, b1⟩
set_option maxHeartbeats 4000000 in
theorem o29 (s : ByteArray) (A B : List UInt8) (w : World) (hs : s.size ≤ 1048576) (hL : Lb w) (G : Forms w) (hf : floatI s.data.toList = true) (hA : cutA s.data.toList = A) (hB : cutB s.data.toList = B)
    (dA : ∀ x ∈ A, isDig x = true) (dB : ∀ x ∈ B, isDig x = true) (la : A.length ≤ 9) (lb : B.length ≤ 9) (nb : B ≠ []) (R z E : Int) (mo : Bool)
    (hz : valF 0 (A ++ B) = 0 → R = 0)
    (hq : valF 0 (A ++ B) ≠ 0 → ∀ v : World, Calls Tryd.prog 52 #[.agg #[.bool false, .int .u64 (valF 0 (A ++ B) : Int), .int .i64 0, .bool false], .agg #[.bool false, .int .u64 ((10 ^ B.length : Nat) : Int), .int .i64 0, .bool false]] v fun e w' => e = .returned (.agg #[.bool false, .int .u64 z, .int .i64 E, .bool mo]) ∧ Below v.heap.size v w')
    (hr : valF 0 (A ++ B) ≠ 0 → ∀ v : World, Forms v → Calls Tryd.prog 51 #[.agg #[.bool false, .int .u64 z, .int .i64 E, .bool mo], .int .i64 0, .int .i64 0] v fun e w' => e = .returned (.int .u32 R) ∧ Below v.heap.size v w') :
    Calls Tryd.prog 29 #[.string s] w fun e w' => e = .returned (.tuple #[.int .u32 R, .bool true]) ∧ Below w.heap.size w w' := by
  have hp := float79 s w hs hL
  rw [hf] at hp
  have HP : Hid (Calls Tryd.prog 79 #[.string s] w fun e w' => e = .returned (.bool true) ∧ Below w.heap.size w w') := hp
  have HC : Hid (∀ v : World, Lb v → Calls Tryd.prog 80 #[.string s, .string ⟨#[46]⟩] v fun e w' => ∃ (a b : ByteArray) (c : Bool), e = .returned (.tuple #[.string a, .string b, .bool c]) ∧ a.data.toList = A ∧ b.data.toList = B ∧ Below v.heap.size v w') := fun v hv => by
    have := cut80 s v hs
    rw [hA, hB] at this
    exact this
  have dAB : ∀ x ∈ A ++ B, isDig x = true := fun x hx => by
    simp only [List.mem_append] at hx
    rcases hx with hx | hx
    · exact dA x hx
    · exact dB x hx
  have lAB : (A ++ B).length ≤ 18 := by simp; omega
  have nAB : A ++ B ≠ [] := by simp [nb]
  have nlt := pre_lt (A ++ B) 18 dAB lAB 1000000000000000000 (by decide)
  have HPU : Hid (∀ (t : ByteArray) (v : World), t.data.toList = A ++ B → Calls Tryd.prog 81 #[.string t, .int .i64 10, .int .i64 64] v fun e w' => e = .returned (.tuple #[.int .u64 (valF 0 (A ++ B) : Int), .nilIface]) ∧ Below v.heap.size v w') := fun t v ht => parse81 t (A ++ B) ht nAB dAB lAB v
  obtain ⟨NN, hNN⟩ : ∃ NN, valF 0 (A ++ B) = NN := ⟨_, rfl⟩
  rw [hNN] at hz hq hr nlt HPU
  obtain ⟨m, hm⟩ : ∃ m, B.length = m := ⟨_, rfl⟩
  rw [hm] at hq lb
  have HLL : Hid (Lb w ∧ Forms w) := ⟨hL, G⟩
  have HLEN : Hid (A.length ≤ 9 ∧ B.length = m) := ⟨la, hm⟩
  have HDB : Hid (∀ x ∈ B, isDig x = true) := dB
  clear hp hL G hf hA hB dA dB dAB lAB nAB hNN hm nb
  by_cases n0 : NN = 0
  · have HR0 : Hid (R = 0) := hz n0
    subst n0
    clear hz hq hr
    go_enter Tryd.func29, Tryd.ntmps29
    go_wp2_with (first | (go_at_call 79; refine (Hid.out HP).mono ?_; rintro e w1 ⟨rfl, b1⟩) | (go_at_call 80; refine ((Hid.out HC) w1 (HLL.out.1.next b1)).mono ?_; rintro e w2 ⟨a, b, c, rfl, ha, hb, b2⟩; (have sa : (a.size : Int) ≤ 9 := by rw [size_list, ha]; have := HLEN.out.1; omega); (have sb : (b.size : Int) ≤ 9 := by rw [size_list, hb, HLEN.out.2]; omega)) | (go_at_call 81; refine ((Hid.out HPU) (a ++ b) w2 (by rw [cat_list, ha, hb])).mono ?_; rintro e w3 ⟨rfl, b3⟩))
    go_ret2
    exact ⟨by rw [HR0.out]; rfl, step_b (step_b b1 b2) b3⟩
  · have HQ : Hid (∀ v : World, Calls Tryd.prog 52 #[.agg #[.bool false, .int .u64 (NN : Int), .int .i64 0, .bool false], .agg #[.bool false, .int .u64 ((10 ^ m : Nat) : Int), .int .i64 0, .bool false]] v fun e w' => e = .returned (.agg #[.bool false, .int .u64 z, .int .i64 E, .bool mo]) ∧ Below v.heap.size v w') := hq n0
    have HR : Hid (∀ v : World, Forms v → Calls Tryd.prog 51 #[.agg #[.bool false, .int .u64 z, .int .i64 E, .bool mo], .int .i64 0, .int .i64 0] v fun e w' => e = .returned (.int .u32 R) ∧ Below v.heap.size v w') := hr n0
    obtain ⟨n, hn⟩ : ∃ n : Int, n = (NN : Int) := ⟨_, rfl⟩
    have n0' : (n == 0) = false := by simp; omega
    rw [← hn] at HPU HQ
    have nb1 : 0 < n := by omega
    have nb2 : n < 1000000000000000000 := by omega
    clear hz hq hr hn n0
    go_enter Tryd.func29, Tryd.ntmps29
    go_wp2_with (first | (go_at_call 79; refine (Hid.out HP).mono ?_; rintro e w1 ⟨rfl, b1⟩) | (go_at_call 80; refine ((Hid.out HC) w1 (HLL.out.1.next b1)).mono ?_; rintro e w2 ⟨a, b, c, rfl, ha, hb, b2⟩; (have sa : (a.size : Int) ≤ 9 := by rw [size_list, ha]; have := HLEN.out.1; omega); (have sb : (b.size : Int) ≤ 9 := by rw [size_list, hb, HLEN.out.2]; omega)) | (go_at_call 81; refine ((Hid.out HPU) (a ++ b) w2 (by rw [cat_list, ha, hb])).mono ?_; rintro e w3 ⟨rfl, b3⟩))
    obtain ⟨W, hW⟩ : ∃ W, W = (w3.alloc (.cells #[.bool false, .int .u64 1, .int .i64 0, .bool false] 84)).iter b 0 := ⟨_, rfl⟩
    obtain ⟨tb, htb⟩ : ∃ x, x = w3.heap.size := ⟨_, rfl⟩
    have b123 := step_b (step_b b1 b2) b3
    have lw := b123.size
    have I0 : W.heap[tb + 1]? = some (.stringIter b 0) := by
      rw [hW, htb]
      have := World.iter_heap (w3.alloc (.cells #[.bool false, .int .u64 1, .int .i64 0, .bool false] 84)) b 0
      simpa using this
    have T0 : W.heap[tb]? = some (.cells #[.bool false, .int .u64 1, .int .i64 0, .bool false] 84 (0, 0)) := by
      rw [hW, htb]
      unfold World.iter
      rw [Below.heap_alloc _ _ _ (by simp)]
      exact heap_alloc_new _ _
    have BW : Below w.heap.size w W := by
      rw [hW]
      unfold World.iter
      exact (b123.alloc (by omega) _).alloc (by simp; omega) _
    have lwt : w.heap.size ≤ tb := by omega
    have bsz : b.size = m := by rw [size_list, hb]; exact HLEN.out.2
    have HBY : Hid (∀ j, j < m → ∃ hj : j < b.size, (b[j]'hj).toNat < 128) := by
      show ∀ j, j < m → ∃ hj : j < b.size, (b[j]'hj).toNat < 128
      intro j hj
      have hj' : j < b.data.toList.length := by rw [← size_list, bsz]; exact hj
      obtain ⟨h1, h2⟩ := byte_of b j b.data.toList[j] (List.getElem?_eq_getElem hj')
      refine ⟨h1, ?_⟩
      rw [h2]
      have := (dig_iff _).1 (HDB.out b.data.toList[j] (by rw [← hb]; exact List.getElem_mem hj'))
      omega
    rw [← hW, ← htb]
    clear hW htb b1 b2 b3 b123 lw HP HC HPU
    go_loopg [] m (fun k wr => ∃ (j : Nat) (T : Int), j + k = m ∧ Hid (T = ((10 ^ j : Nat) : Int)) ∧ wr.heap[tb]? = some (.cells #[.bool false, .int .u64 T, .int .i64 0, .bool false] 84 (0, 0)) ∧ wr.heap[tb + 1]? = some (.stringIter b j) ∧ Below w.heap.size w wr)
    case atStart => exact ⟨0, 1, by omega, (by rw [Nat.pow_zero]; rfl : (1 : Int) = ((10 ^ 0 : Nat) : Int)), T0, I0, BW⟩
    case round =>
      obtain ⟨j, T, hjk, HT, T1, I1, BK⟩ := hrel
      by_cases hlt : j < m
      · obtain ⟨hj, h128⟩ := HBY.out j hlt
        have hnx : ∀ ty, (Instr.next (.pointer (some ⟨tb + 1, 0, none⟩)) true ty).run Tryd.prog wr = .ok (.tuple #[.bool true, .int .i64 j, .int .i32 (b[j]'hj).toNat]) (wr.iterAt (tb + 1) b (j + 1)) := fun ty => Lib.run_next_ascii_at wr (tb + 1) b j ty I1 hj h128
        obtain ⟨Wn, hWn⟩ : ∃ Wn, wr.iterAt (tb + 1) b (j + 1) = Wn := ⟨_, rfl⟩
        have T2 : Wn.heap[tb]? = some (.cells #[.bool false, .int .u64 T, .int .i64 0, .bool false] 84 (0, 0)) := by rw [← hWn, Lib.iterAt_other _ _ _ _ _ (by omega)]; exact T1
        have I2 : Wn.heap[tb + 1]? = some (.stringIter b (j + 1)) := by rw [← hWn]; exact Lib.iterAt_heap wr (tb + 1) b j (j + 1) I1
        have B2 : Below w.heap.size w Wn := by rw [← hWn]; exact Lib.below_iterAt BK (by omega) b (j + 1)
        rw [hWn] at hnx
        obtain ⟨rn, hrn⟩ : ∃ rn : Int, ((b[j]'hj).toNat : Int) = rn := ⟨_, rfl⟩
        rw [hrn] at hnx
        obtain ⟨⟨t0, t1, t2, t3⟩, t4, t5, t6, t7⟩ := blk4 T2
        have tb1 : 1 ≤ T ∧ T ≤ 100000000 := by
          have h := HT.out
          have q : 10 ^ j ≤ 10 ^ 8 := Nat.pow_le_pow_right (by decide) (by omega)
          have p : 1 ≤ 10 ^ j := Nat.one_le_pow _ _ (by decide)
          omega
        have wT : IntKind.u64.wrap (T * 10) = T * 10 := by rw [IntKind.wrap_u64]; omega
        have HT' : Hid (T * 10 = ((10 ^ (j + 1) : Nat) : Int)) := by
          show T * 10 = ((10 ^ (j + 1) : Nat) : Int)
          rw [HT.out, Nat.pow_succ]
          simp
        have HLT : Hid (j < m) := hlt
        clear hWn hrn T1 I1 BK HT h128 hlt
        go_wp2
        go_roundg (gk - 1)
        case measure => have := HLT.out; omega
        case rel => exact ⟨j + 1, T * 10, by have := HLT.out; omega, HT', set4_1 T2, (Below.heap_setCell _ _ _ _ (show tb + 1 ≠ tb by omega)).trans I2, B2.setCell lwt _⟩
      · have hjm : j = m := by omega
        subst hjm
        have hnx : ∀ ty, (Instr.next (.pointer (some ⟨tb + 1, 0, none⟩)) true ty).run Tryd.prog wr = .ok (.tuple #[.bool false]) wr := fun ty => Lib.run_next_end_at wr (tb + 1) b j ty I1 (by omega)
        obtain ⟨⟨t0, t1, t2, t3⟩, t4, t5, t6, t7⟩ := blk4 T1
        have HQ' : Hid (∀ v : World, Calls Tryd.prog 52 #[.agg #[.bool false, .int .u64 n, .int .i64 0, .bool false], .agg #[.bool false, .int .u64 T, .int .i64 0, .bool false]] v fun e w' => e = .returned (.agg #[.bool false, .int .u64 z, .int .i64 E, .bool mo]) ∧ Below v.heap.size v w') := by rw [HT.out]; exact HQ
        clear HQ HT
        go_wp2_with (first | (go_at_call 52; refine ((Hid.out HQ') _).mono ?_; rintro e wa ⟨rfl, ba⟩) | (go_at_call 51; refine ((Hid.out HR) wa (Forms.next HLL.out.2 (step_b BK ba))).mono ?_; rintro e wb ⟨rfl, bb⟩))
        go_ret2
        exact ⟨rfl, step_b (step_b BK ba) bb⟩
theorem s28_bad (s : ByteArray) (w : World) (hs : s.size ≤ 1048576) (hf : floatS s.data.toList = false) :
    Calls Tryd.prog 28 #[.string s] w fun e w' => e = .returned (.tuple #[.int .u32 0, .bool false]) ∧ Below w.heap.size w w' := by
  have hp := float57 s w hs
  rw [hf] at hp
  clear hf
  go_enter Tryd.func28, Tryd.ntmps28
  go_wp2_with (go_at_call 57; refine hp.mono ?_; rintro e w1 ⟨rfl, hw⟩; subst w1)
  go_ret2
  exact ⟨rfl, Below.refl _ _⟩
theorem s28 (s : ByteArray) (w : World) (hs : s.size ≤ 1048576) (hf : floatS s.data.toList = true) (R : Int) (hV : ∀ v : World, Calls Tryd.prog 78 #[.string s] v fun r w' => r = .returned (.int .u32 R) ∧ Below v.heap.size v w') :
    Calls Tryd.prog 28 #[.string s] w fun e w' => e = .returned (.tuple #[.int .u32 R, .bool true]) ∧ Below w.heap.size w w' := by
  have hp := float57 s w hs
  rw [hf] at hp
  clear hf
  go_enter Tryd.func28, Tryd.ntmps28
  go_wp2_with (first | (go_at_call 57; refine hp.mono ?_; rintro e w1 ⟨rfl, hw⟩; subst w1) | (go_at_call 78; refine (hV _).mono ?_; rintro e w2 ⟨rfl, b2⟩))
  go_ret2
  exact ⟨rfl, b2⟩
/-- Both answer alike. -/
theorem float_of_both (s : ByteArray) (hs : s.size ≤ 1048576) : ∃ (R : Int) (B : Bool),
    (∀ w : World, Calls Tryd.prog 28 #[.string s] w fun e w' => e = .returned (.tuple #[.int .u32 R, .bool B]) ∧ Below w.heap.size w w') ∧
    (∀ w : World, Lb w → Forms w → Calls Tryd.prog 29 #[.string s] w fun e w' => e = .returned (.tuple #[.int .u32 R, .bool B]) ∧ Below w.heap.size w w') := by
  have fb := float_both s.data.toList
  cases hf : floatI s.data.toList with
  | false =>
    rw [hf] at fb
    exact ⟨0, false, fun w => s28_bad s w hs fb.symm, fun w hL G => o29_bad s w hs hL hf⟩
  | true =>
    rw [hf] at fb
    obtain ⟨A, B, hl, cA, la, nb, lb, dB⟩ := (floatI_iff _).1 hf
    have dA := cA.2.1
    obtain ⟨hA, hB⟩ := cut_at A B (no46 A dA)
    rw [← hl] at hA hB
    have dAB : ∀ x ∈ A ++ B, isDig x = true := fun x hx => by
      simp only [List.mem_append] at hx
      rcases hx with hx | hx
      · exact dA x hx
      · exact dB x hx
    have nlt := pre_lt (A ++ B) 18 dAB (by simp; omega) 1000000000000000000 (by decide)
    by_cases n0 : valF 0 (A ++ B) = 0
    · exact ⟨0, true, fun w => s28 s w hs fb.symm 0 (fun v => value78 s A B v hl dA dB la lb 0 (by decide) (by decide) (fun _ => rfl) (fun h => absurd n0 h)), fun w hL G => o29 s A B w hs hL G hf hA hB dA dB la lb nb 0 0 0 false (fun _ => rfl) (fun h => absurd n0 h) (fun h => absurd n0 h)⟩
    · have pb : 10 ^ B.length ≤ 10 ^ 9 := Nat.pow_le_pow_right (by decide) lb
      obtain ⟨R, z, E, mo, r0, r1, h1, h2, h3⟩ := flt_both (valF 0 (A ++ B)) (10 ^ B.length) (by omega) nlt (Nat.pow_pos (by decide)) (by omega)
      exact ⟨R, true, fun w => s28 s w hs fb.symm R (fun v => value78 s A B v hl dA dB la lb R r0 r1 (fun h => absurd h n0) (fun _ => h3)), fun w hL G => o29 s A B w hs hL G hf hA hB dA dB la lb nb R z E mo (fun h => absurd h n0) (fun _ => h1) (fun _ => h2)⟩
end Go.Proofs.YtpildklndfgojaaDoor.Tk
