/- The program's reader of one instruction; conditions: bytes, the reader's block and the data stand in memory. -/
import Derived.Test.YtablacgmedkgjaaDoorDci
namespace Go.Proofs.YtablacgmedkgjaaDoor
open Go.ChangeShapes Go.WideShapes Go.ChangeAt Go.RowKit
set_option linter.unusedVariables false
theorem own_new {w : World} {cs : Array Value} {t : TypeId} {n : Nat} {F : Nat → Value} (hF : ∀ i, i < n → cs[i]? = some (F i)) : Own (w.alloc (.cells cs t)) w.heap.size n F := by
  refine ⟨fun i hi => ?_, fun i => ?_, by rw [World.size_alloc]; omega⟩
  · rw [World.cell?_alloc_mark]
    exact hF i hi
  · rw [World.frozen?_alloc_mark]
    simp
def z6 (i : Nat) : Value := if i = 5 then .int .u32 0 else .int .i64 0
def arr (s : Nat → Int) (o : Int) (p j i : Nat) : Value := .int .i64 (if i < j then pvl s o p i else 0)
set_option maxRecDepth 100000 in
set_option maxHeartbeats 4000000 in
theorem instr49 (r g N p : Nat) (f : Nat → Int) (w : World) (R : Rdr w r g f N p) (hf : ∀ i, 0 ≤ f i ∧ f i < 256) (hN : N ≤ 1048576) : Calls Tryd.prog 54 #[.pointer (some ⟨r, 0, none⟩)] w fun e w' => e = .returned (.agg #[.int .i64 (fz f N p), .int .i64 (pvl (fz f N) (fz f N p) p 0), .int .i64 (pvl (fz f N) (fz f N p) p 1), .int .i64 (pvl (fz f N) (fz f N p) p 2), .int .i64 (pvl (fz f N) (fz f N p) p 3), .int .u32 (pvl (fz f N) (fz f N p) p 4)]) ∧ Rdr w' r g f N (qs (fz f N p) p 5) ∧ Only r w w' := by
  have HTk : Hid (∀ (p W : Nat) (v : World), Rdr v r g f N p → W ≤ 4 → Calls Tryd.prog 53 #[.pointer (some ⟨r, 0, none⟩), .int .i64 (W : Int)] v fun e w' => e = .returned (.int .i64 (num (fz f N) p W)) ∧ Rdr w' r g f N (p + W) ∧ Only r v w') := fun p W v R hW => take48 r g N p W f v R hf hN hW
  have HS : Hid (Bt (fz f N)) := fz_bt hf
  have rl := R.lt
  have gl := R.hg
  have ne := R.ne
  have R0 := R.next ((Below.refl w.heap.size w).alloc (Nat.le_refl _) (.cells #[.int .i64 0, .int .i64 0, .int .i64 0, .int .i64 0, .int .i64 0, .int .u32 0] 35))
  have H1 : Hid (Calls Tryd.prog 53 #[.pointer (some ⟨r, 0, none⟩), .int .i64 1] (w.alloc (.cells #[.int .i64 0, .int .i64 0, .int .i64 0, .int .i64 0, .int .i64 0, .int .u32 0] 35)) fun e w' => e = .returned (.int .i64 (fz f N p)) ∧ Rdr w' r g f N (p + 1) ∧ Only r (w.alloc (.cells #[.int .i64 0, .int .i64 0, .int .i64 0, .int .i64 0, .int .i64 0, .int .u32 0] 35)) w') := by
    refine (HTk.out p 1 _ R0 (by decide)).mono ?_
    rintro e w' ⟨rfl, h⟩
    refine ⟨?_, h⟩
    simp [num]
  have O0 : Own (w.alloc (.cells #[.int .i64 0, .int .i64 0, .int .i64 0, .int .i64 0, .int .i64 0, .int .u32 0] 35)) w.heap.size 6 z6 := own_new (fun i hi => by rcases (by omega : i = 0 ∨ i = 1 ∨ i = 2 ∨ i = 3 ∨ i = 4 ∨ i = 5) with rfl | rfl | rfl | rfl | rfl | rfl <;> rfl)
  have HO0 : Hid (Own (w.alloc (.cells #[.int .i64 0, .int .i64 0, .int .i64 0, .int .i64 0, .int .i64 0, .int .u32 0] 35)) w.heap.size 6 z6) := O0
  obtain ⟨s, hs⟩ : ∃ s, fz f N = s := ⟨_, rfl⟩
  rw [hs] at HTk HS H1 ⊢
  have hb := HS.out p
  obtain ⟨o, ho⟩ : ∃ o, s p = o := ⟨_, rfl⟩
  rw [ho] at H1 hb ⊢
  have HRa : Hid (∀ j, 0 ≤ pvl s o p j ∧ pvl s o p j < 4294967296) := fun j => pvl_range HS.out o p j
  have HFl : Hid (∀ v, Calls Tryd.prog 48 #[.int .i64 o] v fun e w' => e = .returned (.agg #[.bool (nmd o 0), .bool (nmd o 1), .bool (nmd o 2), .bool (nmd o 3), .bool (nmd o 4)]) ∧ Below v.heap.size v w') := fun v => fields37 o v
  clear R R0 O0 hs ho hf
  go_enter Tryd.func54, Tryd.ntmps54
  go_wp2_with (first | (go_at_call 53; refine H1.out.mono ?_; rintro e w1 ⟨rfl, R1, B1⟩) | (go_at_call 48; refine (HFl.out _).mono ?_; rintro e w2 ⟨rfl, B2⟩))
  have z1 := B1.size
  have Q1 : Own w1 w.heap.size 6 z6 := HO0.out.but B1 (by omega)
  have R2 : Hid (Rdr w2 r g f N (qs o p 0)) := (R1.next ((Below.refl _ _).alloc (Nat.le_refl _) _)).next B2
  have A2 : Hid (Own w2 w1.heap.size 5 (arr s o p 0)) := (own_new (w := w1) (cs := #[.int .i64 0, .int .i64 0, .int .i64 0, .int .i64 0, .int .i64 0]) (t := 61) (fun i hi => by rcases (by omega : i = 0 ∨ i = 1 ∨ i = 2 ∨ i = 3 ∨ i = 4) with rfl | rfl | rfl | rfl | rfl <;> rfl)).next B2
  have Q2 : Hid (Own w2 w.heap.size 6 z6) := (Q1.next ((Below.refl _ _).alloc (Nat.le_refl _) _)).next B2
  have F2 : Hid (Only r w w2) := ((Only.ofBelow ((Below.refl w.heap.size w).alloc (Nat.le_refl _) _)).trans B1).trans ((Only.ofBelow ((Below.refl w1.heap.size w1).alloc (Nat.le_refl _) _)).trans (Only.ofBelow B2))
  have hrl : r < w1.heap.size := R1.lt
  have hgl : g < w1.heap.size := R1.hg
  have hkl : w.heap.size < w1.heap.size := Q1.hi
  obtain ⟨h, hh⟩ : ∃ h, w1.heap.size = h := ⟨_, rfl⟩
  obtain ⟨t0, ht0⟩ : ∃ t, w.heap.size = t := ⟨_, rfl⟩
  have HT0 : Hid (w.heap.size = t0) := ht0
  rw [hh] at A2 hrl hgl hkl ⊢
  rw [ht0] at Q2 hkl rl gl ⊢
  clear R1 B1 B2 Q1 HO0 H1 hh ht0 z1
  go_loopw [11] (fun i wx => ∃ j : Nat, j ≤ 5 ∧ i = .int .i64 j ∧ Hid (Rdr wx r g f N (qs o p j)) ∧ Hid (Own wx h 5 (arr s o p j)) ∧ Hid (Own wx t0 6 z6) ∧ Hid (Only r w wx)) (fun i _ => 5 - (intOf i).toNat)
  case atStart => exact ⟨0, by omega, rfl, R2, A2, Q2, F2⟩
  case round =>
    obtain ⟨j, hj, rfl, HR, HA, HQ, HF⟩ := hrel
    by_cases hj5 : j < 5
    · have j1 : (j : Int) < 5 := by omega
      have j0 : (0 : Int) ≤ (j : Int) := by omega
      have ik := ixbAll (nmd o) j hj5
      have HSu : Hid (∀ b, nmd o j = b → qs o p (j + 1) = qs o p j + (if b then fldW j else 0) ∧ pvl s o p j = if b then num s (qs o p j) (fldW j) else 0) := fun b hb => by subst hb; exact ⟨rfl, rfl⟩
      have h45 : ∀ v, Calls Tryd.prog 50 #[.int .i64 (j : Int)] v fun e w' => e = .returned (.int .i64 (fldW j : Int)) ∧ w' = v := fun v => by
        refine (width45 j hj5 v).mono ?_
        rintro e w' ⟨rfl, rfl⟩
        refine ⟨?_, rfl⟩
        unfold fldW
        split <;> rfl
      have hWd : fldW j ≤ 4 := by unfold fldW; split <;> omega
      have H48 := HTk.out (qs o p j) (fldW j) _ HR.out hWd
      cases hN : nmd o j
      · obtain ⟨e1, e2⟩ := HSu.out false hN
        have HE1 : Hid (qs o p (j + 1) = qs o p j) := by show _ = _; simpa using e1
        have HA' : Hid (Own wr h 5 (arr s o p (j + 1))) := HA.out.mono (Nat.le_refl _) (fun i hi => by
          unfold arr
          by_cases e : i = j
          · subst e
            rw [if_pos (by omega), if_neg (by omega), e2]
            rfl
          · by_cases e' : i < j
            · rw [if_pos e', if_pos (by omega)]
            · rw [if_neg e', if_neg (by omega)])
        rw [hN] at ik
        clear e1 e2 HSu H48 h45 hN
        go_wp2
        go_roundw
        case rel => exact ⟨j + 1, by omega, by go_num, by rw [HE1.out]; exact HR, HA', HQ, HF⟩
        case measure => simp [intOf]; omega
      · obtain ⟨e1, e2⟩ := HSu.out true hN
        have HE1 : Hid (qs o p (j + 1) = qs o p j + fldW j) := by show _ = _; simpa using e1
        have HE2 : Hid (pvl s o p j = num s (qs o p j) (fldW j)) := by show _ = _; simpa using e2
        rw [hN] at ik
        clear e1 e2 HSu hN
        generalize fldW j = Wd at h45 hWd H48 HE1 HE2
        generalize num s (qs o p j) Wd = V at H48 HE2
        go_wp2_with (first | (go_at_call 50; refine (h45 _).mono ?_; rintro e w3 ⟨rfl, hw⟩; subst w3) | (go_at_call 53; refine H48.mono ?_; rintro e w3 ⟨rfl, R3, O3⟩; (have A3 := HA.out.but O3 (by omega)); (have cA := A3.cell j hj5); (have fA := A3.free j)))
        have A4 : Own (w3.setCell ⟨h, j, none⟩ (.int .i64 V)) h 5 (arr s o p (j + 1)) := A3.set j _ hj5 (fun i hi => by
          unfold arr
          by_cases e : i = j
          · subst e
            rw [if_pos rfl, if_pos (by omega), HE2.out]
          · rw [if_neg e]
            by_cases e' : i < j
            · rw [if_pos e', if_pos (by omega)]
            · rw [if_neg e', if_neg (by omega)])
        have S4 : Only h w3 (w3.setCell ⟨h, j, none⟩ (.int .i64 V)) := (Only.refl _ _).setCell j _
        have R4 := R3.only S4 (by omega) (by omega)
        have Q4 := (HQ.out.but O3 (by omega)).but S4 (by omega)
        have F3 := HF.out.trans O3
        have F4 : Only r w (w3.setCell ⟨h, j, none⟩ (.int .i64 V)) := ⟨F3.os, F3.tape, F3.output, by simpa using F3.size, fun k hk hne => (S4.block k (by have := F3.size; omega) (by have := HT0.out; omega)).trans (F3.block k hk hne)⟩
        clear A3 cA fA S4 F3 O3
        go_roundw
        case rel => exact ⟨j + 1, by omega, by go_num, by show Rdr _ _ _ _ _ _; rw [HE1.out]; exact R4, A4, Q4, F4⟩
        case measure => simp [intOf]; omega
    · have hjj : j = 5 := by omega
      subst hjj
      rw [show ((5 : Nat) : Int) = 5 from rfl]
      have a0 : wr.cell? ⟨h, 0, none⟩ = some (.int .i64 (pvl s o p 0)) := HA.out.cell 0 (by omega)
      have a1 : wr.cell? ⟨h, 1, none⟩ = some (.int .i64 (pvl s o p 1)) := HA.out.cell 1 (by omega)
      have a2 : wr.cell? ⟨h, 2, none⟩ = some (.int .i64 (pvl s o p 2)) := HA.out.cell 2 (by omega)
      have a3 : wr.cell? ⟨h, 3, none⟩ = some (.int .i64 (pvl s o p 3)) := HA.out.cell 3 (by omega)
      have a4 : wr.cell? ⟨h, 4, none⟩ = some (.int .i64 (pvl s o p 4)) := HA.out.cell 4 (by omega)
      have H71 := fun v => instr71 o (pvl s o p 0) (pvl s o p 1) (pvl s o p 2) (pvl s o p 3) (pvl s o p 4) v (HRa.out 4).1 (HRa.out 4).2
      go_wp2_with (go_at_call 78; refine (H71 _).mono ?_; rintro e w3 ⟨rfl, B3⟩; (have Q3 := HQ.out.next B3); (have q0 : w3.cell? ⟨t0, 0, none⟩ = some (.int .i64 0) := Q3.cell 0 (by omega)); (have q1 : w3.cell? ⟨t0, 1, none⟩ = some (.int .i64 0) := Q3.cell 1 (by omega)); (have q2 : w3.cell? ⟨t0, 2, none⟩ = some (.int .i64 0) := Q3.cell 2 (by omega)); (have q3 : w3.cell? ⟨t0, 3, none⟩ = some (.int .i64 0) := Q3.cell 3 (by omega)); (have q4 : w3.cell? ⟨t0, 4, none⟩ = some (.int .i64 0) := Q3.cell 4 (by omega)); (have q5 : w3.cell? ⟨t0, 5, none⟩ = some (.int .u32 0) := Q3.cell 5 (by omega)); (have f0 := Q3.free 0); (have f1 := Q3.free 1); (have f2 := Q3.free 2); (have f3 := Q3.free 3); (have f4 := Q3.free 4); (have f5 := Q3.free 5))
      have S5 : Only t0 w3 ((((((w3.setCell ⟨t0, 0, none⟩ (.int .i64 o)).setCell ⟨t0, 1, none⟩ (.int .i64 (pvl s o p 0))).setCell ⟨t0, 2, none⟩ (.int .i64 (pvl s o p 1))).setCell ⟨t0, 3, none⟩ (.int .i64 (pvl s o p 2))).setCell ⟨t0, 4, none⟩ (.int .i64 (pvl s o p 3))).setCell ⟨t0, 5, none⟩ (.int .u32 (pvl s o p 4))) := ((((((Only.refl _ _).setCell 0 _).setCell 1 _).setCell 2 _).setCell 3 _).setCell 4 _).setCell 5 _
      have F5 := HF.out.trans (Only.ofBelow B3)
      refine bodyPost_ret (v := .agg #[.int .i64 o, .int .i64 (pvl s o p 0), .int .i64 (pvl s o p 1), .int .i64 (pvl s o p 2), .int .i64 (pvl s o p 3), .int .u32 (pvl s o p 4)]) (by simp [results, Tryd.results54, go_sem, q0, q1, q2, q3, q4, q5]) rfl ⟨rfl, (HR.out.next B3).only S5 (by omega) (by omega), ⟨S5.os.trans F5.os, S5.tape.trans F5.tape, S5.output.trans F5.output, Nat.le_trans F5.size S5.size, fun k hk hne => (S5.block k (by have := F5.size; omega) (by have := HT0.out; omega)).trans (F5.block k hk hne)⟩⟩
end Go.Proofs.YtablacgmedkgjaaDoor
