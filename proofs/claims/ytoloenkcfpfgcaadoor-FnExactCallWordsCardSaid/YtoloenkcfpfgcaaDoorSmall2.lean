/- Contracts of the model's limbs, powers and bits of whole numbers where one limb is enough. -/
import Derived.Test.YtoloenkcfpfgcaaDoorSmall
namespace Go.Proofs.YtoloenkcfpfgcaaDoor
open Go.ChangeShapes Go.WideShapes Go.ChangeAt Go.RowKit

theorem wr64 (x : Int) (h0 : -9223372036854775808 ≤ x) (h1 : x ≤ 9223372036854775807) : IntKind.i64.wrap x = x := by
  simp [IntKind.wrap, IntKind.bits, IntKind.signed]; omega
/-- A block of three cells that nothing froze: each cell as it stands, each may be written. -/
theorem blk3 {w : World} {b : Nat} {x y z : Value} {t : TypeId} (h : w.heap[b]? = some (.cells #[x, y, z] t (0, 0))) :
    (w.cell? ⟨b, 0, none⟩ = some x ∧ w.cell? ⟨b, 1, none⟩ = some y ∧ w.cell? ⟨b, 2, none⟩ = some z) ∧ (w.frozen? ⟨b, 0, none⟩ = false ∧ w.frozen? ⟨b, 1, none⟩ = false ∧ w.frozen? ⟨b, 2, none⟩ = false) := by
  refine ⟨⟨?_, ?_, ?_⟩, ?_, ?_, ?_⟩ <;> simp [World.cell?, World.frozen?, h]
/-- A block of three cells, written anew cell by cell; every other block stands as it did. -/
theorem set3 {w : World} {b : Nat} {x y z x' y' z' : Value} {t : TypeId} (h : w.heap[b]? = some (.cells #[x, y, z] t (0, 0))) :
    (((w.setCell ⟨b, 0, none⟩ x').setCell ⟨b, 1, none⟩ y').setCell ⟨b, 2, none⟩ z').heap[b]? = some (.cells #[x', y', z'] t (0, 0)) := by
  have hb : b < w.heap.size := lt_of_block h
  have e : w.heap[b] = .cells #[x, y, z] t (0, 0) := by
    have := Array.getElem?_eq_getElem hb
    rw [this] at h; exact Option.some.inj h
  simp [World.setCell, Array.getElem?_modify, h]
theorem set3_ne {w : World} {b k : Nat} {x' y' z' : Value} (hk : k ≠ b) :
    (((w.setCell ⟨b, 0, none⟩ x').setCell ⟨b, 1, none⟩ y').setCell ⟨b, 2, none⟩ z').heap[k]? = w.heap[k]? := by
  rw [Below.heap_setCell _ _ _ _ hk, Below.heap_setCell _ _ _ _ hk, Below.heap_setCell _ _ _ _ hk]
theorem set3_size {w : World} {b : Nat} {x' y' z' : Value} :
    (((w.setCell ⟨b, 0, none⟩ x').setCell ⟨b, 1, none⟩ y').setCell ⟨b, 2, none⟩ z').heap.size = w.heap.size := by
  simp
theorem zLimbs1 (n v : Int) (hv : v = n ∨ v = -n) (v0 : 0 < v) (v1 : v < 1000000000) (w : World) :
    Calls Tryd.prog 63 #[.agg #[.int .i64 n, .bool false, .slice none 0 0]] w fun e w' => ∃ b, e = .returned (.slice (some ⟨b, 0, none⟩) 1 1) ∧ w'.cell? ⟨b, 0, none⟩ = some (.int .u32 v) ∧ b < w'.heap.size ∧ Below w.heap.size w w' := by
  rcases hv with rfl | rfl
  · have k : ¬ v < 0 := by omega
    go_enter Tryd.func63, Tryd.ntmps63
    go_wp2
    go_ret
    exact ⟨_, rfl, by simp, by simp, by repeat (first | (with_reducible refine Below.setCell ?_ (by first | omega | (simp; try omega)) _) | (with_reducible refine Below.alloc ?_ (by first | omega | (simp; try omega)) _) | (with_reducible apply Below.drew) | (with_reducible apply below_drewN) | (with_reducible exact Below.refl _ _))⟩
  · have k : n < 0 := by omega
    go_enter Tryd.func63, Tryd.ntmps63
    go_wp2
    go_ret
    exact ⟨_, rfl, by simp, by simp, by repeat (first | (with_reducible refine Below.setCell ?_ (by first | omega | (simp; try omega)) _) | (with_reducible refine Below.alloc ?_ (by first | omega | (simp; try omega)) _) | (with_reducible apply Below.drew) | (with_reducible apply below_drewN) | (with_reducible exact Below.refl _ _))⟩
set_option maxHeartbeats 1000000 in
theorem zMake1 (v : Int) (v0 : 0 < v) (v1 : v < 1000000000) (b : Nat) (w : World) (hc : w.cell? ⟨b, 0, none⟩ = some (.int .u32 v)) (hb : b < w.heap.size) :
    Calls Tryd.prog 64 #[.bool false, .slice (some ⟨b, 0, none⟩) 1 1] w fun e w' => e = .returned (.agg #[.int .i64 v, .bool false, .slice none 0 0]) ∧ Below w.heap.size w w' := by
  have hne : ¬ b = w.heap.size := by omega
  have hv : ¬ v = 0 := by omega
  go_enter Tryd.func64, Tryd.ntmps64
  go_wp2
  refine wp_loop_rounds 1 ?_; rw [rounds_succ]
  go_wp2
  refine wp_loop_rounds 2 ?_; rw [rounds_succ]
  go_wp2
  rw [rounds_succ]
  go_wp2
  exact bodyPost_ret (v := .agg #[.int .i64 v, .bool false, .slice none 0 0]) (by simp [results, Tryd.results64, go_sem]) rfl ⟨rfl, by repeat (first | (with_reducible refine Below.setCell ?_ (by first | omega | (simp; try omega)) _) | (with_reducible refine Below.alloc ?_ (by first | omega | (simp; try omega)) _) | (with_reducible apply Below.drew) | (with_reducible apply below_drewN) | (with_reducible exact Below.refl _ _))⟩

theorem log_half (t : Nat) (h : 2 ≤ t) : Nat.log2 t = Nat.log2 (t / 2) + 1 := by
  rw [Nat.log2_def t, if_pos h]
theorem log_lt (v : Nat) (h : v < 1000000000) : Nat.log2 v < 30 := by
  by_cases h0 : v = 0
  · subst h0; decide
  · exact (Nat.log2_lt h0).2 (by omega)
set_option maxHeartbeats 1000000 in
theorem zBits1 (v : Nat) (v0 : 0 < v) (v1 : v < 1000000000) (w : World) :
    Calls Tryd.prog 81 #[.agg #[.int .i64 v, .bool false, .slice none 0 0]] w fun e w' => e = .returned (.int .i64 (Nat.log2 v : Nat)) ∧ Below w.heap.size w w' := by
  have hl := log_lt v v1
  go_enter Tryd.func81, Tryd.ntmps81
  go_wp2_with (go_at_call 63; refine (zLimbs1 v v (Or.inl rfl) (by omega) (by omega) _).mono ?_; rintro e w' ⟨b, rfl, hcl, hbl, hb⟩)
  have HL : Hid (Nat.log2 v < 30) := hl
  clear hl
  go_loop [4, 5] (fun nn t => ∃ k tt : Nat, nn = .int .i64 k ∧ t = .int .u32 tt ∧ 1 ≤ tt ∧ tt ≤ v ∧ Hid (k + Nat.log2 tt = Nat.log2 v)) (fun _ t => (intOf t).toNat)
  case atStart => exact ⟨0, v, rfl, rfl, v0, Nat.le_refl _, Nat.zero_add _⟩
  case round =>
    obtain ⟨k, tt, rfl, rfl, t1, t2, hk⟩ := hrel
    have kb : k < 30 := by have h1 := hk.out; have h2 := HL.out; omega
    by_cases h : 1 < tt
    · have hh := log_half tt h
      have HK : Hid (k + 1 + Nat.log2 (tt / 2) = Nat.log2 v) := by have h1 := hk.out; show k + 1 + Nat.log2 (tt / 2) = Nat.log2 v; omega
      clear hh
      go_wp2
      go_round
      case rel => exact ⟨k + 1, tt / 2, by go_num, by first | rfl | go_num, by omega, by omega, HK⟩
      case measure => simp [intOf]; omega
    · have ht : tt = 1 := by omega
      subst ht
      have hk2 : k = Nat.log2 v := by have h1 := hk.out; have : Nat.log2 1 = 0 := by decide
                                      omega
      go_wp2
      go_ret
      exact ⟨by rw [← hk2]; rfl, ((Below.refl w.heap.size w).alloc (Nat.le_refl _) _).trans (hb.mono (by simp))⟩

set_option maxHeartbeats 1000000 in
theorem zPower_lo (n : Int) (n0 : 0 ≤ n) (n1 : n < 50) (w : World) (P : Int) (hP : (2 : Int) ^ n.toNat = P) (p0 : 0 < P) (p1 : P ≤ 562949953421312) :
    Calls Tryd.prog 39 #[.int .i64 n] w fun e w' => e = .returned (.agg #[.int .i64 P, .bool false, .slice none 0 0]) ∧ Below w.heap.size w w' := by
  have hpow : IntKind.i64.wrap (2 ^ min (IntKind.u64.wrap n).toNat 64) = P := by
    rw [IntKind.wrap_u64, Int.emod_eq_of_lt n0 (by omega), Nat.min_eq_left (by omega), hP, wr64 P (by omega) (by omega)]
  go_enter Tryd.func39, Tryd.ntmps39
  go_wp2_with (go_at_call 38; refine (zSmall _ (by omega) (by omega) _).mono ?_; rintro e w' ⟨rfl, hb⟩; obtain ⟨hc, hf⟩ := bcell hb; have hz := hb.size; simp at hz)
  have R0 : w'.heap[w.heap.size]? = some (.cells #[.int .i64 0, .bool false, .slice none 0 0] 50 (0, 0)) := (hb.block _ (by simp)).trans (heap_alloc_new _ _)
  have ne1 : ¬ w'.heap.size = w.heap.size := by omega
  have ne2 : ¬ w.heap.size = w'.heap.size := by omega
  refine wp_loop_rounds 1 ?_; rw [rounds_succ]
  go_wp2
  go_region_held3 (fun v => v.cell? ⟨w'.heap.size, 0, none⟩ = some (.int .i64 1) ∧ v.cell? ⟨w'.heap.size, 1, none⟩ = some (.bool false) ∧ v.cell? ⟨w'.heap.size, 2, none⟩ = some (.slice none 0 0)) (first | go_keep | (refine ⟨?_, ?_, ?_⟩ <;> (rw [hc3 _ _ (by omega), hc2 _ _ (by simp)]; simp)) | (refine ⟨?_, ?_, ?_⟩ <;> (rw [hc2 _ _ (by simp)]; simp)) | (simp [u0, u1, u2, ne1, ne2])) (first | (go_at_call 38; (try rw [hpow]); refine (zSmall _ (by omega) (by omega) _).mono ?_; rintro e w2 ⟨rfl, hb2⟩; obtain ⟨hc2, hf2⟩ := bcell hb2; have hz2 := hb2.size; (try simp at hz2)) | (go_at_call 37; refine (zMul _ _ (by omega) (by omega) (by omega) (by omega) (by omega) (by omega) _).mono ?_; rintro e w3 ⟨rfl, hb3⟩; obtain ⟨hc3, hf3⟩ := bcell hb3; have hz3 := hb3.size; (try simp at hz3); obtain ⟨⟨x0, x1, x2⟩, y0, y1, y2⟩ := blk3 ((hb3.block _ (by omega)).trans ((hb2.block _ (by simp; omega)).trans ((Below.heap_alloc _ _ _ (by omega)).trans R0))); obtain ⟨⟨u0, u1, u2⟩, _, _, _⟩ := blk3 ((hb3.block _ (by omega)).trans ((hb2.block _ (by simp)).trans (heap_alloc_new _ _)))))
  all_goals go_wp2
  all_goals exact bodyPost_ret (v := .agg #[.int .i64 P, .bool false, .slice none 0 0]) (by simp [results, Tryd.results39, go_sem, x0, x1, x2]) rfl ⟨rfl, by repeat (first | (with_reducible refine Below.setCell ?_ (by first | omega | (simp; try omega)) _) | (with_reducible refine Below.alloc ?_ (by first | omega | (simp; try omega)) _) | (with_reducible apply Below.drew) | (with_reducible apply below_drewN) | (with_reducible exact Below.refl _ _) | (with_reducible refine Below.trans ?_ (hb3.mono (by first | omega | (simp; try omega)))) | (with_reducible refine Below.trans ?_ (hb2.mono (by first | omega | (simp; try omega)))) | (with_reducible refine Below.trans ?_ (hb.mono (by first | omega | (simp; try omega)))))⟩
set_option maxHeartbeats 2000000 in
theorem zPower_50 (w : World) :
    Calls Tryd.prog 39 #[.int .i64 50] w fun e w' => e = .returned (.agg #[.int .i64 1125899906842624, .bool false, .slice none 0 0]) ∧ Below w.heap.size w w' := by
  go_enter Tryd.func39, Tryd.ntmps39
  go_wp2_with (go_at_call 38; refine (zSmall _ (by omega) (by omega) _).mono ?_; rintro e w' ⟨rfl, hb⟩; obtain ⟨hc, hf⟩ := bcell hb; have hz := hb.size; simp at hz)
  have R0 : w'.heap[w.heap.size]? = some (.cells #[.int .i64 0, .bool false, .slice none 0 0] 50 (0, 0)) := (hb.block _ (by simp)).trans (heap_alloc_new _ _)
  have ne1 : ¬ w'.heap.size = w.heap.size := by omega
  have ne2 : ¬ w.heap.size = w'.heap.size := by omega
  refine wp_loop_rounds 2 ?_; rw [rounds_succ]
  go_wp2
  go_region_with (first | (go_at_call 38; refine (zSmall _ (by omega) (by omega) _).mono ?_; rintro e w2 ⟨rfl, hb2⟩; have hz2 := hb2.size; (try simp at hz2); obtain ⟨⟨u0, u1, u2⟩, u3, u4, u5⟩ := blk3 ((hb2.block _ (by simp)).trans (heap_alloc_new _ _))) | (go_at_call 37; refine (zMul _ _ (by omega) (by omega) (by omega) (by omega) (by omega) (by omega) _).mono ?_; rintro e w3 ⟨rfl, hb3⟩; have hz3 := hb3.size; (try simp at hz3); obtain ⟨⟨x0, x1, x2⟩, x3, x4, x5⟩ := blk3 ((hb3.block _ (by omega)).trans ((hb2.block _ (by simp)).trans (heap_alloc_new _ _)))))
  all_goals go_wp2
  all_goals rw [rounds_succ]
  all_goals go_wp2
  all_goals
    obtain ⟨W, hW⟩ : ∃ W, W = (((w3.setCell ⟨w'.heap.size, 0, none⟩ (.int .i64 1125899906842624)).setCell ⟨w'.heap.size, 1, none⟩ (.bool false)).setCell ⟨w'.heap.size, 2, none⟩ (.slice none 0 0)) := ⟨_, rfl⟩
    have P0 : W.heap[w'.heap.size]? = some (.cells #[.int .i64 1125899906842624, .bool false, .slice none 0 0] 50 (0, 0)) := by rw [hW]; exact set3 ((hb3.block _ (by omega)).trans ((hb2.block _ (by simp)).trans (heap_alloc_new _ _)))
    have P1 : W.heap[w.heap.size]? = some (.cells #[.int .i64 0, .bool false, .slice none 0 0] 50 (0, 0)) := by rw [hW, set3_ne (by omega)]; exact (hb3.block _ (by omega)).trans ((hb2.block _ (by simp; omega)).trans ((Below.heap_alloc _ _ _ (by omega)).trans R0))
    have hBW : Below w.heap.size w W := by rw [hW]; repeat (first | (with_reducible refine Below.setCell ?_ (by first | omega | (simp; try omega)) _) | (with_reducible refine Below.alloc ?_ (by first | omega | (simp; try omega)) _) | (with_reducible apply Below.drew) | (with_reducible apply below_drewN) | (with_reducible exact Below.refl _ _) | (with_reducible refine Below.trans ?_ (hb3.mono (by first | omega | (simp; try omega)))) | (with_reducible refine Below.trans ?_ (hb2.mono (by first | omega | (simp; try omega)))) | (with_reducible refine Below.trans ?_ (hb.mono (by first | omega | (simp; try omega)))))
    have hSW : w'.heap.size < W.heap.size := lt_of_block P0
    rw [← hW]
    clear hW hb3 hb2 hb hc hf x0 x1 x2 x3 x4 x5 R0
    obtain ⟨⟨g0, g1, g2⟩, _, _, _⟩ := blk3 P0
    go_region_held3 (fun v => v.cell? ⟨w'.heap.size, 0, none⟩ = some (.int .i64 1125899906842624) ∧ v.cell? ⟨w'.heap.size, 1, none⟩ = some (.bool false) ∧ v.cell? ⟨w'.heap.size, 2, none⟩ = some (.slice none 0 0)) (first | go_keep | (refine ⟨?_, ?_, ?_⟩ <;> (rw [hc5 _ _ (by omega), hc4 _ _ (by simp; omega)]; simp [g0, g1, g2])) | (refine ⟨?_, ?_, ?_⟩ <;> (rw [hc4 _ _ (by simp; omega)]; simp [g0, g1, g2])) | (simp [t0, t1, t2, ne1, ne2])) (first | (go_at_call 38; refine (zSmall _ (by first | omega | decide) (by first | omega | decide) _).mono ?_; rintro e w4 ⟨rfl, hb4⟩; obtain ⟨hc4, hf4⟩ := bcell hb4; have hz4 := hb4.size; (try simp at hz4)) | (go_at_call 37; refine (zMul _ _ (by first | omega | decide) (by first | omega | decide) (by first | omega | decide) (by first | omega | decide) (by first | omega | decide) (by first | omega | decide) _).mono ?_; rintro e w5 ⟨rfl, hb5⟩; obtain ⟨hc5, hf5⟩ := bcell hb5; have hz5 := hb5.size; (try simp at hz5); obtain ⟨⟨x0, x1, x2⟩, y0, y1, y2⟩ := blk3 ((hb5.block _ (by omega)).trans ((hb4.block _ (by simp; omega)).trans P1)); obtain ⟨⟨t0, t1, t2⟩, _, _, _⟩ := blk3 ((hb5.block _ (by omega)).trans ((hb4.block _ (by simp; omega)).trans P0))))
  all_goals go_wp2
  all_goals exact bodyPost_ret (v := .agg #[.int .i64 1125899906842624, .bool false, .slice none 0 0]) (by simp [results, Tryd.results39, go_sem, x0, x1, x2]; decide) rfl ⟨rfl, by repeat (first | (with_reducible refine Below.setCell ?_ (by first | omega | (simp; try omega)) _) | (with_reducible refine Below.alloc ?_ (by first | omega | (simp; try omega)) _) | (with_reducible apply Below.drew) | (with_reducible apply below_drewN) | (with_reducible exact Below.refl _ _) | (with_reducible refine Below.trans ?_ (hb5.mono (by first | omega | (simp; try omega)))) | (with_reducible refine Below.trans ?_ (hb4.mono (by first | omega | (simp; try omega)))) | (with_reducible exact hBW))⟩
theorem pow_bd (n k : Nat) (h : n ≤ k) : 0 < (2 : Int) ^ n ∧ (2 : Int) ^ n ≤ 2 ^ k := by
  have a : (2 : Nat) ^ n ≤ 2 ^ k := Nat.pow_le_pow_right (by decide) h
  have b : 0 < (2 : Nat) ^ n := Nat.two_pow_pos _
  have e1 : ((2 : Int) ^ n) = ((2 ^ n : Nat) : Int) := by simp
  have e2 : ((2 : Int) ^ k) = ((2 ^ k : Nat) : Int) := by simp
  rw [e1, e2]; omega
theorem zPower (n : Int) (n0 : 0 ≤ n) (n1 : n ≤ 50) (w : World) :
    Calls Tryd.prog 39 #[.int .i64 n] w fun e w' => e = .returned (.agg #[.int .i64 (2 ^ n.toNat), .bool false, .slice none 0 0]) ∧ Below w.heap.size w w' := by
  by_cases h : n = 50
  · subst h; exact zPower_50 w
  · have b := pow_bd n.toNat 49 (by omega)
    exact zPower_lo n n0 (by omega) w _ rfl b.1 b.2
end Go.Proofs.YtoloenkcfpfgcaaDoor
