/- What is drawn for the law of halves: a word, a mode, a half: each within its bounds. -/
import Derived.Test.YtpildklndfgojaaDoorCurA
import Derived.Test.YtpildklndfgojaaDoorRoundS
import Derived.Test.YtpildklndfgojaaDoorHalfW
namespace Go.Proofs.YtpildklndfgojaaDoor
open Go.ChangeShapes Go.WideShapes Go.ChangeAt Go.RowKit
open Pl (Only Own Arg)
set_option linter.unusedVariables false
theorem u32_bd (y : Int) : 0 ≤ IntKind.u32.wrap y ∧ IntKind.u32.wrap y < 4294967296 := by rw [IntKind.wrap_u32]; omega
theorem wrap32_bd (y : Int) : 0 ≤ y % 4294967296 ∧ y % 4294967296 < 4294967296 := by omega
theorem lit_cell (k : IntKind) (L : List Int) (T : TypeId) (w : World) (i : Nat) (hi : i < L.length) : (w.alloc (.cells (L.map (Value.int k)).toArray T (0, 0))).cell? ⟨w.heap.size, i, none⟩ = some (.int k (L.getD i 0)) := by
  have h := heap_alloc_new w (.cells (L.map (Value.int k)).toArray T (0, 0))
  simp only [World.cell?]
  rw [h]
  simp [hi]
theorem amongC {b : Nat} {k : Int} {w : World} {o m c : Nat} (hc : Cur b k w) (hk : k ≤ 900000) (f : Nat → Int) (m0 : 1 < m) (m1 : m ≤ 65536) (hob : o ≠ b) (ho : o < w.heap.size)
    (hcell : ∀ i, i < m → w.cell? ⟨o, i, none⟩ = some (.int .i64 (f i))) :
    Calls Tryd.prog 31 #[.pointer (some ⟨b, 0, none⟩), .slice (some ⟨o, 0, none⟩) m c] w fun e w' => ∃ i : Nat, i < m ∧ e = .returned (.int .i64 (f i)) ∧ Cur b (k + 2) w' ∧ Only b w w' := among31 b k w hk hc o m c f m0 m1 hob ho hcell
theorem sizedC {b : Nat} {k : Int} {w : World} (hc : Cur b k w) (hk : k ≤ 900000 - 20) :
    Calls Tryd.prog 91 #[.pointer (some ⟨b, 0, none⟩)] w fun e w' => ∃ x : Int, -9223372036854775808 ≤ x ∧ x ≤ 9223372036854775807 ∧ e = .returned (.int .i64 x) ∧ Cur b (k + 16) w' ∧ Only b w w' := sized91 b k w hk hc
theorem modeC {b : Nat} {k : Int} {w : World} (hc : Cur b k w) (hk : k ≤ 800000) :
    Calls Tryd.prog 39 #[.pointer (some ⟨b, 0, none⟩)] w fun e w' => ∃ x : Int, -1 ≤ x ∧ x ≤ 5 ∧ e = .returned (.int .i64 x) ∧ Cur b (k + 4) w' ∧ Only b w w' := by
  have o0 := Only.refl b w
  go_enter Tryd.func39, Tryd.ntmps39
  go_wp2_with (first | (go_at_call 30; refine (oneC (by assumption) (by omega) (by decide) (by decide)).mono ?_; rintro e w1 ⟨t, rfl, c1, oc⟩; (have oo := Only.trans (by assumption) oc); clear oc) | (go_at_call 32; refine (pickC (by assumption) (by omega) (by decide) (by decide)).mono ?_; rintro e w1 ⟨x, x0, x1, rfl, c1, oc⟩; (have oo := Only.trans (by assumption) oc); clear oc) | (go_at_call 31; refine (amongC (Cur.next (by assumption) (al _ _)) (by omega) (fun i => List.getD [-1, 5] i 0) (by decide) (by decide) (Nat.ne_of_gt (Cur.lt (by assumption))) (by simp) (fun i hi => lit_cell .i64 [-1, 5] _ _ i hi)).mono ?_; rintro e w1 ⟨i, hi, rfl, c1, oc⟩; (have oo := Only.trans (Only.trans (by assumption) (Only.ofBelow (al _ _))) oc); clear oc))
  all_goals go_ret
  all_goals refine ⟨_, ?_, ?_, rfl, Cur.mono (by assumption) (by omega), by assumption⟩
  all_goals first | omega | (have hi2 : i < 2 := hi; rcases (by omega : i = 0 ∨ i = 1) with rfl | rfl <;> decide)
theorem round90 (num power : Int) (w : World) (a0 : -9223372036854775808 ≤ num) (a1 : num ≤ 9223372036854775807) :
    Calls Tryd.prog 90 #[.int .i64 num, .int .i64 power, .int .i64 0] w fun e w' => ∃ R : Int, 0 ≤ R ∧ R < 4294967296 ∧ e = .returned (.int .u32 R) ∧ Below w.heap.size w w' := by
  obtain ⟨R, r0, r1, hs⟩ := fnExactRoundNumber.specR num power 0 a0 a1
  exact (hs w).mono fun e w' ⟨h1, h2⟩ => ⟨R, r0, r1, h1, h2⟩
theorem word10 (h : Int) (h0 : 0 ≤ h) (w : World) : Calls Tryd.prog 10 #[.int .u32 h] w fun e w' => ∃ R : Int, e = .returned (.int .u32 R) ∧ Below w.heap.size w w' := by
  obtain ⟨R, hs, _, _⟩ := fnExactWordOfHalf.both h h0
  exact (hs w).mono fun e w' ⟨h1, h2⟩ => ⟨R, h1, h2⟩
abbrev L24 : List Int := [0, 2147483648, 1, 2147483649, 8388607, 8388608, 2139095039, 2139095040, 4286578688, 2143289344, 4290772992, 2139095041, 1065353216, 3212836864, 1325400064, 3472883712, 1325400063, 1199562752, 1199570943, 1199570944, 864026624, 855638016, 1056964608, 1069547520]
theorem L24_bd (i : Nat) (hi : i < 24) : 0 ≤ L24.getD i 0 ∧ L24.getD i 0 < 4294967296 := by
  have : ∀ i : Fin 24, 0 ≤ L24.getD i.val 0 ∧ L24.getD i.val 0 < 4294967296 := by decide
  exact this ⟨i, hi⟩
set_option maxHeartbeats 2000000 in
theorem wordC {b : Nat} {k : Int} {w : World} (hc : Cur b k w) (hk : k ≤ 800000) :
    Calls Tryd.prog 38 #[.pointer (some ⟨b, 0, none⟩)] w fun e w' => ∃ x : Int, 0 ≤ x ∧ x < 4294967296 ∧ e = .returned (.int .u32 x) ∧ Cur b (k + 24) w' ∧ Only b w w' := by
  have o0 := Only.refl b w
  go_enter Tryd.func38, Tryd.ntmps38
  go_wp2_with (first | (go_at_call 32; (with_reducible show Calls Tryd.prog 32 #[_, Value.int IntKind.i64 24] (World.alloc _ _) _); refine (pickC (Cur.next (by assumption) (al _ _)) (by omega) (by decide) (by decide)).mono ?_; rintro e w1 ⟨x, x0, x1, rfl, c1, oc⟩; obtain ⟨j, rfl⟩ := Int.eq_ofNat_of_zero_le x0; (have hj : j < 24 := by omega); (have hcj := (show ∀ (u : World) (T : TypeId), Only b (u.alloc (.cells (L24.map (Value.int .u32)).toArray T (0, 0))) w1 → b < u.heap.size → w1.cell? ⟨u.heap.size, j, none⟩ = some (.int .u32 (L24.getD j 0)) from fun u T ho hl => by rw [← lit_cell .u32 L24 T u j hj]; have := ho.block u.heap.size (by simp) (by omega); simp only [World.cell?, this]) _ _ oc (Cur.lt (by assumption))); (have jb := L24_bd j hj); (have oo := Only.trans (Only.trans (by assumption) (Only.ofBelow (al _ _))) oc); clear oc; generalize L24.getD j 0 = lv at hcj jb) | (go_at_call 32; refine (pickC (by assumption) (by omega) (by decide) (by decide)).mono ?_; rintro e w1 ⟨x, x0, x1, rfl, c1, oc⟩; (have oo := Only.trans (by assumption) oc); clear oc) | (go_at_call 89; refine (wideC (by assumption) (by omega)).mono ?_; rintro e w1 ⟨y, y0, y1, rfl, c1, oc⟩; (have oo := Only.trans (by assumption) oc); clear oc) | (go_at_call 91; refine (sizedC (by assumption) (by omega)).mono ?_; rintro e w1 ⟨y, y0, y1, rfl, c1, oc⟩; (have oo := Only.trans (by assumption) oc); clear oc) | (go_at_call 90; refine (round90 _ _ _ (by omega) (by omega)).mono ?_; rintro e w1 ⟨R, R0, R1, rfl, hb⟩; (have c1 := Cur.next (by assumption) hb); (have oo := Only.trans (by assumption) (Only.ofBelow hb)); clear hb))
  all_goals go_ret
  all_goals refine ⟨_, ?_, ?_, rfl, Cur.mono (by assumption) (by omega), by assumption⟩
  all_goals first | omega | exact (u32_bd _).1 | exact (u32_bd _).2
theorem cur_new {w : World} {s : Option Addr} {n : Nat} {f : Nat → Int} (c : Nat) (hA : Arg w s n (fun i => .int .u8 (f i))) (hn : n ≤ 1048576) (hf : ∀ i, 0 ≤ f i ∧ f i < 256) : Cur w.heap.size 0 (w.alloc (.cells #[.slice s n c, .int .i64 0, .int .u64 0] 53 (0, 0))) := by
  refine ⟨s, n, c, f, 0, 0, heap_alloc_new _ _, hn, by decide, by decide, by decide, by decide, ?_, hf⟩
  rcases hA with h | ⟨b, off, hs, hb, hc⟩
  · exact Or.inl h
  · exact Or.inr ⟨b, off, hs, hb, fun i hi => ((al w _).cell (p := ⟨b, off + i, none⟩) hb).trans (hc i hi)⟩
abbrev L9 : List Int := [65536, 65535, 31744, 64512, 31743, 1, 1024, 1023, 32768]
abbrev L7 : List Int := [0, 0, 4096, 4095, 4097, 1, 8191]
set_option maxHeartbeats 2000000 in
theorem draw8 (w : World) (s : Option Addr) (n c : Nat) (f : Nat → Int) (hA : Arg w s n (fun i => .int .u8 (f i))) (hn : n ≤ 1048576) (hf : ∀ i, 0 ≤ f i ∧ f i < 256) :
    Calls Tryd.prog 8 #[.slice s n c] w fun e w' => ∃ x : Int, 0 ≤ x ∧ x < 4294967296 ∧ e = .returned (.int .u32 x) ∧ Below w.heap.size w w' := by
  have c0 := cur_new c hA hn hf
  have o0 := Only.refl w.heap.size (w.alloc (.cells #[.slice s n c, .int .i64 0, .int .u64 0] 53 (0, 0)))
  clear hA hf
  go_enter Tryd.func8, Tryd.ntmps8
  go_wp2_with (first | (go_at_call 30; refine (oneC (by assumption) (by omega) (by decide) (by decide)).mono ?_; rintro e w1 ⟨t, rfl, c1, oc⟩; (have oo := Only.trans (by assumption) oc); clear oc) | (go_at_call 32; refine (pickC (by assumption) (by omega) (by decide) (by decide)).mono ?_; rintro e w1 ⟨x, x0, x1, rfl, c1, oc⟩; (have oo := Only.trans (by assumption) oc); clear oc) | (go_at_call 31; refine (amongC (Cur.next (by assumption) (al _ _)) (by omega) (fun i => List.getD L9 i 0) (by decide) (by decide) (Nat.ne_of_gt (Cur.lt (by assumption))) (by simp) (fun i hi => lit_cell .i64 L9 _ _ i hi)).mono ?_; rintro e w1 ⟨i, hi, rfl, c1, oc⟩; (have oo := Only.trans (Only.trans (by assumption) (Only.ofBelow (al _ _))) oc); clear oc))
  all_goals go_ret
  all_goals refine ⟨_, ?_, ?_, rfl, (al w _).trans (Only.below (by assumption) (Nat.le_refl _) (by simp))⟩
  all_goals first | omega | exact (u32_bd _).1 | exact (u32_bd _).2
set_option maxHeartbeats 2000000 in
theorem draw11 (w : World) (s : Option Addr) (n c : Nat) (f : Nat → Int) (hA : Arg w s n (fun i => .int .u8 (f i))) (hn : n ≤ 1048576) (hf : ∀ i, 0 ≤ f i ∧ f i < 256) :
    Calls Tryd.prog 11 #[.slice s n c] w fun e w' => ∃ x m : Int, 0 ≤ x ∧ x < 4294967296 ∧ -1 ≤ m ∧ m ≤ 5 ∧ e = .returned (.tuple #[.int .u32 x, .int .i64 m]) ∧ Below w.heap.size w w' := by
  have c0 := cur_new c hA hn hf
  have o0 := Only.refl w.heap.size (w.alloc (.cells #[.slice s n c, .int .i64 0, .int .u64 0] 53 (0, 0)))
  clear hA hf
  go_enter Tryd.func11, Tryd.ntmps11
  go_wp2_with (first | (go_at_call 38; refine (wordC (by assumption) (by omega)).mono ?_; rintro e w1 ⟨v, v0, v1, rfl, c1, oc⟩; (have oo := Only.trans (by assumption) oc); clear oc) | (go_at_call 30; refine (oneC (by assumption) (by omega) (by decide) (by decide)).mono ?_; rintro e w1 ⟨t, rfl, c1, oc⟩; (have oo := Only.trans (by assumption) oc); clear oc) | (go_at_call 32; refine (pickC (by assumption) (by omega) (by decide) (by decide)).mono ?_; rintro e w1 ⟨x, x0, x1, rfl, c1, oc⟩; (have oo := Only.trans (by assumption) oc); clear oc) | (go_at_call 10; refine (word10 _ (by first | omega | exact (u32_bd _).1) _).mono ?_; rintro e w1 ⟨R, rfl, hb⟩; (have c1 := Cur.next (by assumption) hb); (have oo := Only.trans (by assumption) (Only.ofBelow hb)); clear hb) | (go_at_call 31; refine (amongC (Cur.next (by assumption) (al _ _)) (by omega) (fun i => List.getD L7 i 0) (by decide) (by decide) (Nat.ne_of_gt (Cur.lt (by assumption))) (by simp) (fun i hi => lit_cell .i64 L7 _ _ i hi)).mono ?_; rintro e w1 ⟨i, hi, rfl, c1, oc⟩; (have oo := Only.trans (Only.trans (by assumption) (Only.ofBelow (al _ _))) oc); clear oc) | (go_at_call 39; refine (modeC (by assumption) (by omega)).mono ?_; rintro e w1 ⟨y, y0, y1, rfl, c1, oc⟩; (have oo := Only.trans (by assumption) oc); clear oc))
  all_goals go_ret2
  all_goals refine ⟨_, _, ?_, ?_, ?_, ?_, rfl, (al w _).trans (Only.below (by assumption) (Nat.le_refl _) (by simp))⟩
  all_goals first | omega | exact (u32_bd _).1 | exact (u32_bd _).2
end Go.Proofs.YtpildklndfgojaaDoor
