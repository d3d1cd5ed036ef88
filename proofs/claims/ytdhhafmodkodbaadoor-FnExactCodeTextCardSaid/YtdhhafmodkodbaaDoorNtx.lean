/- The model's numbers in texts: what it writes for a whole number is what the library writes. -/
import Derived.Test.YtdhhafmodkodbaaDoorBnr
import Derived.Lib.ItoaNum
import Derived.Laws.IdiomStrings
import Derived.OwnWalk
namespace Go.Proofs.YtdhhafmodkodbaaDoor
open Go.ChangeShapes Go.WideShapes Go.ChangeAt Go.RowKit
set_option linter.unusedVariables false
theorem cell_nx {v v' : World} {p : Addr} {u : Value} (h : v.cell? p = some u) (k : Below v.heap.size v v') : v'.cell? p = some u := (k.cell (World.block_lt_of_cell? _ p h)).trans h
def lim (u i : Nat) : Nat := u / 1000000000 ^ i % 1000000000
def dgI (u j : Nat) : Int := ((48 + u / 10 ^ j % 10 : Nat) : Int)
def outL (u j : Nat) : List Int := (List.range j).map (dgI u)
theorem outL_len (u j : Nat) : (outL u j).length = j := by simp [outL]
theorem outL_succ (u j : Nat) : outL u (j + 1) = outL u j ++ [dgI u j] := by unfold outL; rw [List.range_succ, List.map_append]; rfl
theorem outL_at (u n j : Nat) (h : j < n) : (outL u n)[j]? = some (dgI u j) := by simp [outL, h]
theorem pow_nine : ∀ i : Nat, 10 ^ (9 * i) = 1000000000 ^ i
  | 0 => rfl
  | i + 1 => by
    have h : (10 : Nat) ^ (9 * 1) = 1000000000 := by decide
    rw [Nat.mul_add, Nat.pow_add, pow_nine i, h]
    exact (Nat.pow_succ _ _).symm
theorem cut_nine (y k : Nat) (hk : k < 9) : y % 1000000000 / 10 ^ k % 10 = y / 10 ^ k % 10 := by
  rcases (by omega : k = 0 ∨ k = 1 ∨ k = 2 ∨ k = 3 ∨ k = 4 ∨ k = 5 ∨ k = 6 ∨ k = 7 ∨ k = 8) with rfl | rfl | rfl | rfl | rfl | rfl | rfl | rfl | rfl <;> simp only [Nat.reducePow] <;> omega
theorem dg_lim (u i k : Nat) (hk : k < 9) : ((48 + lim u i / 10 ^ k % 10 : Nat) : Int) = dgI u (9 * i + k) := by
  unfold dgI lim
  rw [cut_nine _ _ hk, Nat.pow_add, pow_nine, Nat.div_div_eq_div_mul]
theorem lim_next (u i k : Nat) : lim u i / 10 ^ (k + 1) = lim u i / 10 ^ k / 10 := by rw [Nat.pow_succ, Nat.div_div_eq_div_mul]
theorem lim_lt (u i k : Nat) : lim u i / 10 ^ k < 1000000000 := by
  unfold lim
  exact Nat.lt_of_le_of_lt (Nat.div_le_self _ _) (Nat.mod_lt _ (by decide))
theorem down_digit (u n : Nat) (h : u < 10 ^ (n + 1)) (hd : u / 10 ^ n % 10 = 0) : u < 10 ^ n := by
  have h1 : u / 10 ^ n < 10 := by
    apply Nat.div_lt_of_lt_mul
    rw [← Nat.pow_succ]; exact h
  have h2 : u / 10 ^ n = 0 := by
    generalize u / 10 ^ n = d at h1 hd
    omega
  have hp : 0 < 10 ^ n := Nat.pow_pos (by decide)
  rcases Nat.lt_or_ge u (10 ^ n) with h3 | h3
  · exact h3
  · have := Nat.div_pos h3 hp
    omega
theorem up_digit (u n : Nat) (hd : u / 10 ^ n % 10 ≠ 0) : 10 ^ n ≤ u := by
  rcases Nat.lt_or_ge u (10 ^ n) with h | h
  · rw [Nat.div_eq_of_lt h] at hd; exact absurd rfl hd
  · exact h
theorem pow18 (u m : Nat) (hu : u < 4294967296) (hm : u < 1000000000 ∧ m = 1 ∨ m = 2) : u < 10 ^ (9 * m) := by
  rcases hm with ⟨h, rfl⟩ | rfl
  · simpa using h
  · simp only [Nat.reduceMul, Nat.reducePow]; omega
def revL (u n t : Nat) : List Int := (List.range t).map (fun s => dgI u (n - 1 - s))
theorem revL_len (u n t : Nat) : (revL u n t).length = t := by simp [revL]
theorem revL_succ (u n t : Nat) : revL u n (t + 1) = revL u n t ++ [dgI u (n - 1 - t)] := by unfold revL; rw [List.range_succ, List.map_append]; rfl
theorem dec_at (u n : Nat) (h : Lib.nDigits u = n) (j : Nat) (hj : j < (Lib.decDigits u).length) : ((Lib.decDigits u)[j].toNat : Int) = (revL u n n).getD j 0 := by
  have e := Lib.decDigits_eq u
  have hl := Lib.decDigits_length u
  have hj' : j < n := by omega
  have e1 : (Lib.decDigits u)[j]? = some (Lib.dg u (n - 1 - j)) := by rw [e, h]; simp [hj']
  rw [List.getElem?_eq_getElem hj] at e1
  rw [Option.some.inj e1]
  have e2 : (revL u n n).getD j 0 = dgI u (n - 1 - j) := by simp [revL, List.getD, hj']
  rw [e2]
  unfold Lib.dg dgI
  have : 48 + u / 10 ^ (n - 1 - j) % 10 < 256 := by omega
  simp [UInt8.toNat_ofNat', Nat.mod_eq_of_lt this]
def LimRow (w : World) (v : Value) (u m : Nat) : Prop := ∃ g, v = .slice (some ⟨g, 0, none⟩) m m ∧ g < w.heap.size ∧ ∀ i, i < m → w.cell? ⟨g, i, none⟩ = some (.int .u32 (lim u i : Int))
def Lims (w : World) (v : Value) (u : Nat) : Prop := ∃ m, LimRow w v u m ∧ (u < 1000000000 ∧ m = 1 ∨ m = 2)
theorem LimRow.next {w w' : World} {v : Value} {u m : Nat} (h : LimRow w v u m) (b : Below w.heap.size w w') : LimRow w' v u m := by
  obtain ⟨g, hv, hl, hc⟩ := h
  exact ⟨g, hv, by have := b.size; omega, fun i hi => (b.cell (p := ⟨g, i, none⟩) hl).trans (hc i hi)⟩
set_option maxRecDepth 100000 in
set_option maxHeartbeats 2000000 in
theorem limbs77_0 (w : World) : Calls Tryd.prog 35 #[.agg #[.int .i64 0, .bool false, .slice none 0 0]] w fun e w' => e = .returned (.slice none 0 0) ∧ Below w.heap.size w w' := by
  go_enter Tryd.func35, Tryd.ntmps35
  go_wp2
  go_ret
  exact ⟨rfl, (Below.refl _ _).alloc (Nat.le_refl _) _⟩
set_option maxRecDepth 100000 in
set_option maxHeartbeats 2000000 in
theorem limbs77 (u : Nat) (w : World) (u0 : 0 < u) (u1 : u < 4294967296) : Calls Tryd.prog 35 #[.agg #[.int .i64 (u : Int), .bool false, .slice none 0 0]] w fun e w' => ∃ v, e = .returned v ∧ Lims w' v u ∧ Below w.heap.size w w' := by
  obtain ⟨U, hU⟩ : ∃ U : Int, (u : Int) = U := ⟨_, rfl⟩
  have HU : Hid ((u : Int) = U) := hU
  have U0 : 0 < U := by omega
  have U0' : ¬ U < 0 := by omega
  have U0'' : 0 ≤ U := by omega
  have Ue : (U == 0) = false := by simp; omega
  have U1 : U < 4294967296 := by omega
  rw [hU]
  clear hU
  by_cases hs : U < 1000000000
  · go_enter Tryd.func35, Tryd.ntmps35
    go_wp2
    go_ret
    refine ⟨_, rfl, ⟨1, ⟨_, rfl, by simp, fun i hi => ?_⟩, Or.inl ⟨by have := HU.out; omega, rfl⟩⟩, ((Below.refl _ _).alloc (Nat.le_refl _) _).alloc (by simp) _⟩
    obtain rfl : i = 0 := by omega
    have e : ((lim u 0 : Nat) : Int) = U := by have := HU.out; unfold lim; simp; omega
    rw [e]
    simp
  · go_enter Tryd.func35, Tryd.ntmps35
    have hs' : 1000000000 ≤ U := by omega
    have r0 : 0 ≤ U % 1000000000 := by omega
    have r1 : U % 1000000000 < 4294967296 := by omega
    have r2 : 0 ≤ U / 1000000000 := by omega
    have r3 : U / 1000000000 < 4294967296 := by omega
    go_wp2
    go_ret
    refine ⟨_, rfl, ⟨2, ⟨_, rfl, by simp, fun i hi => ?_⟩, Or.inr rfl⟩, ((Below.refl _ _).alloc (Nat.le_refl _) _).alloc (by simp) _⟩
    have hU := HU.out
    rcases (by omega : i = 0 ∨ i = 1) with rfl | rfl
    · have e : ((lim u 0 : Nat) : Int) = U % 1000000000 := by unfold lim; simp; omega
      rw [e]
      simp
    · have e : ((lim u 1 : Nat) : Int) = U / 1000000000 := by unfold lim; simp only [Nat.pow_one]; omega
      rw [e]
      simp
set_option maxRecDepth 100000 in
theorem neg78 (u : Nat) (w : World) (u1 : u < 4294967296) : Calls Tryd.prog 36 #[.agg #[.int .i64 (u : Int), .bool false, .slice none 0 0]] w fun e w' => e = .returned (.bool false) ∧ Below w.heap.size w w' := by
  have U0' : ¬ (u : Int) < 0 := by omega
  go_enter Tryd.func36, Tryd.ntmps36
  go_wp2
  go_ret
  exact ⟨by simp, (Below.refl _ _).alloc (Nat.le_refl _) _⟩
set_option maxRecDepth 100000 in
theorem small53 (u : Nat) (w : World) (u1 : u < 4294967296) : Calls Tryd.prog 23 #[.int .i64 (u : Int)] w fun e w' => e = .returned (.agg #[.int .i64 (u : Int), .bool false, .slice none 0 0]) ∧ Below w.heap.size w w' := by
  have q0 : (u : Int) < 1000000000000000000 := by omega
  have q1 : -1000000000000000000 < (u : Int) := by omega
  have q2 : (u : Int) > -1000000000000000000 := by omega
  go_enter Tryd.func23, Tryd.ntmps23
  go_wp2
  exact bodyPost_ret (v := .agg #[.int .i64 (u : Int), .bool false, .slice none 0 0]) (by simp [results, Tryd.results23, go_sem]) rfl ⟨rfl, by repeat (first | (with_reducible exact Below.refl _ _) | (refine Below.setCell ?_ (p := ⟨w.heap.size, _, none⟩) (Nat.le_refl _) _) | (refine Below.alloc ?_ (Nat.le_refl _) _))⟩
theorem text_zero (w : World) : Calls Tryd.prog 22 #[.agg #[.int .i64 0, .bool false, .slice none 0 0]] w fun e w' => e = .returned (.string ⟨#[48]⟩) ∧ Below w.heap.size w w' := by
  have h77 := limbs77_0
  go_enter Tryd.func22, Tryd.ntmps22
  go_wp2_with (go_at_call 35; refine (h77 _).mono ?_; rintro e w1 ⟨rfl, B1⟩)
  go_ret
  exact ⟨rfl, ((Below.refl _ _).alloc (Nat.le_refl _) _).trans (B1.mono (by simp))⟩
set_option maxRecDepth 100000 in
set_option maxHeartbeats 8000000 in
theorem text52 (u : Nat) (w : World) (u0 : 0 < u) (u1 : u < 4294967296) : Calls Tryd.prog 22 #[.agg #[.int .i64 (u : Int), .bool false, .slice none 0 0]] w fun e w' => e = .returned (.string ⟨(Lib.decDigits u).toArray⟩) ∧ Below w.heap.size w w' := by
  obtain ⟨i5, hi5, hz50, hz51, hz52⟩ := info_parts info5
  have h77 := fun v => limbs77 u v u0 u1
  have H78 : Hid (∀ v, Calls Tryd.prog 36 #[.agg #[.int .i64 (u : Int), .bool false, .slice none 0 0]] v fun e w' => e = .returned (.bool false) ∧ Below v.heap.size v w') := fun v => neg78 u v u1
  have HB0 : Hid (Below w.heap.size w (w.alloc (.cells #[.int .i64 (u : Int), .bool false, .slice none 0 0] 60))) := (Below.refl _ _).alloc (Nat.le_refl _) _
  have d0 : (w.alloc (.cells #[.int .i64 (u : Int), .bool false, .slice none 0 0] 60)).cell? ⟨w.heap.size, 0, none⟩ = some (.int .i64 (u : Int)) := by simp
  have d1 : (w.alloc (.cells #[.int .i64 (u : Int), .bool false, .slice none 0 0] 60)).cell? ⟨w.heap.size, 1, none⟩ = some (.bool false) := by simp
  have d2 : (w.alloc (.cells #[.int .i64 (u : Int), .bool false, .slice none 0 0] 60)).cell? ⟨w.heap.size, 2, none⟩ = some (.slice none 0 0) := by simp
  have HU : Hid (0 < u ∧ u < 4294967296) := ⟨u0, u1⟩
  clear u0 u1
  go_enter Tryd.func22, Tryd.ntmps22
  go_wp2_with (first | (go_at_call 35; refine (h77 _).mono ?_; rintro e w2 ⟨v, rfl, ⟨m, LR, hm⟩, B2⟩; (obtain ⟨g, rfl, gl, gc⟩ := LR); (have e0 := cell_nx d0 B2); (have e1 := cell_nx d1 B2); (have e2 := cell_nx d2 B2); (have m1 : 1 ≤ m ∧ m ≤ 2 := by omega); (have me : ((m : Int) == 0) = false := by simp; omega)) | (at_make; refine wpList_make_own _ rfl _ _ 31 rfl w.heap.size 5 i5 (.int .u8 0) 1 Tryd.underlying31 hi5 hz50 hz51 .i64 .i64 _ (9 * m + 1) rfl rfl ?hC ?b2 ?b3 ?b4 ?_))
  case hC => go_num
  case b2 => rw [hz52]; omega
  case b3 => unfold maxLen; omega
  case b4 => have h1 := B2.size; have h2 := HB0.out.size; omega
  intro w3 hown hgrow
  have HG : Hid (∀ i, i < m → w2.cell? ⟨g, i, none⟩ = some (.int .u32 (lim u i : Int))) := gc
  have HM : Hid (u < 1000000000 ∧ m = 1 ∨ m = 2) := hm
  have B02 : Hid (Below w.heap.size w w2) := HB0.out.trans (B2.mono HB0.out.size)
  have HWL : Hid (w.heap.size < w2.heap.size ∧ g < w2.heap.size) := ⟨World.block_lt_of_cell? _ ⟨w.heap.size, 0, none⟩ e0, gl⟩
  have HC : Hid (w2.cell? ⟨w.heap.size, 0, none⟩ = some (.int .i64 (u : Int)) ∧ w2.cell? ⟨w.heap.size, 1, none⟩ = some (.bool false) ∧ w2.cell? ⟨w.heap.size, 2, none⟩ = some (.slice none 0 0)) := ⟨e0, e1, e2⟩
  clear d0 d1 d2 e0 e1 e2 gl gc hm B2 HB0 h77
  have R3 : Hid (Rb w.heap.size w3 (.slice (some ⟨w2.heap.size, 0, none⟩) 0 (9 * m + 1)) (outL u (9 * 0))) := ⟨hown, by have := hgrow.size; have := B02.out.size; omega⟩
  have B23 : Hid (Below w2.heap.size w2 w3) := ⟨hgrow.os, hgrow.tape, hgrow.output, hgrow.size, fun k hk => hgrow.block k hk (by simp)⟩
  have HG3 : Hid (∀ i, i < m → w3.cell? ⟨g, i, none⟩ = some (.int .u32 (lim u i : Int))) := fun i hi => cell_nx (HG.out i hi) B23.out
  obtain ⟨v0, hv0⟩ : ∃ v0, Value.slice (some ⟨w2.heap.size, 0, none⟩) 0 (9 * m + 1) = v0 := ⟨_, rfl⟩
  have HV0 : Hid (v0.ownBlock = some w2.heap.size) := by rw [← hv0]; rfl
  rw [hv0] at R3 ⊢
  clear hown hgrow hv0 HG
  go_wp2
  go_loopw [4, 23] (fun vv i wr => ∃ (k : Nat) (p : Value), k ≤ m ∧ i = .int .i64 k ∧ p = vv ∧ Hid (Rb w.heap.size wr p (outL u (9 * k))) ∧ Hid (Gro w3 v0 wr p)) (fun _ i _ => m - (intOf i).toNat)
  case atStart => exact ⟨0, v0, by omega, rfl, rfl, R3, Gro.refl _ _⟩
  case round =>
    obtain ⟨k, p, hk, rfl, rfl, HR, HGr⟩ := hrel
    by_cases hkm : k < m
    · have i1 : (k : Int) < (m : Int) := by omega
      have i0 : (0 : Int) ≤ (k : Int) := by omega
      have cl : wr.cell? ⟨g, k, none⟩ = some (.int .u32 (lim u k : Int)) := HGr.out.cell (HG3.out k hkm) (by rw [HV0.out]; intro e; injection e with e; have := HWL.out; omega)
      have HR0 : Hid (Rb w.heap.size wr p (outL u (9 * k + 0))) := HR
      go_wp2
      go_loopw [4, 6, 7] (fun vv y jj wx => ∃ (j : Nat) (p' : Value), j ≤ 9 ∧ jj = .int .i64 j ∧ y = .int .u32 ((lim u k / 10 ^ j : Nat) : Int) ∧ p' = vv ∧ Hid (Rb w.heap.size wx p' (outL u (9 * k + j))) ∧ Hid (Gro w3 v0 wx p')) (fun _ _ jj _ => 9 - (intOf jj).toNat)
      case atStart => exact ⟨0, p, by omega, rfl, by simp, rfl, HR0, HGr⟩
      case round =>
        obtain ⟨j, p', hj, rfl, rfl, rfl, HR1, HG1⟩ := hrel
        by_cases hj9 : j < 9
        · have i2 : (j : Int) < 9 := by omega
          have HD := dg_lim u k j hj9
          have hn := lim_next u k j
          have zl := lim_lt u k j
          generalize lim u k / 10 ^ j = zn at HD hn zl ⊢
          have HN : Hid (((lim u k / 10 ^ (j + 1) : Nat) : Int) = (zn : Int) / 10) := by show _ = _; rw [hn]; omega
          have HD2 : Hid (dgI u (9 * k + j) = 48 + (zn : Int) % 10) := by show _ = _; rw [← HD]; omega
          have z0 : 0 ≤ (zn : Int) := by omega
          have z1 : (zn : Int) < 1000000000 := by omega
          clear HD hn zl
          generalize (zn : Int) = z at HN HD2 z0 z1 ⊢
          have z2 : 0 ≤ 48 + z % 10 := by omega
          have z3 : 48 + z % 10 < 256 := by omega
          go_wp2_with (at_builtin; refine wpList_append_lies _ rfl _ _ 31 rfl w.heap.size 5 i5 (.int .u8 0) 1 1 Tryd.underlying31 hi5 hz50 hz51 hz52 rfl (by decide) _ _ _ rfl (HR1.out.1.alloc _) ⟨wr.heap.size, 0, none⟩ 1 1 [.int .u8 (48 + z % 10)] rfl rfl ?c1 ?c2 (by decide) ?c3 ?c4 ?c5 _ rfl ?_)
          case c1 =>
            intro j u hj
            match j, hj with
            | 0, hj => simp at hj; subst hj; simp [Addr.add]
          case c2 => intro u hu; simp at hu; subst hu; rfl
          case c3 => rw [outL_len]; unfold maxLen; omega
          case c4 => rw [outL_len]; omega
          case c5 => have := HR1.out.2; simp; omega
          intro g' cap' w1 hown hgrow hat hlt
          have e1 : (outL u (9 * k + j)).length + 1 = (outL u (9 * k + (j + 1))).length := by rw [outL_len, outL_len]; rfl
          have R1 : Hid (Rb w.heap.size w1 (.slice (some ⟨g', 0, none⟩) ((outL u (9 * k + j)).length + 1) cap') (outL u (9 * k + (j + 1)))) := by
            refine ⟨?_, ?_⟩
            · rw [← e1, show 9 * k + (j + 1) = 9 * k + j + 1 from rfl, outL_succ, bl_app, HD2.out]
              exact hown
            · have := hgrow.size; have := HR1.out.2; simp at *; omega
          have G1 : Hid (Gro w3 v0 w1 (.slice (some ⟨g', 0, none⟩) ((outL u (9 * k + j)).length + 1) cap')) := by
            refine (HG1.out.alloc _).trans ⟨hgrow, ?_⟩
            rcases hat with e | e
            · exact Or.inl e.symm
            · exact Or.inr ⟨g', rfl, by rw [e]; simp⟩
          generalize (outL u (9 * k + j)).length + 1 = q at R1 G1 ⊢
          clear e1 hown hgrow hat hlt
          go_wp2
          go_roundw
          case rel => exact ⟨j + 1, _, by omega, by go_num, by rw [HN.out], rfl, R1, G1⟩
          case measure => simp [intOf]; omega
        · obtain rfl : j = 9 := by omega
          have HR9 : Hid (Rb w.heap.size wr p' (outL u (9 * (k + 1)))) := by rw [show 9 * (k + 1) = 9 * k + 9 by omega]; exact HR1
          generalize ((lim u k / 10 ^ 9 : Nat) : Int) = z
          rw [show ((9 : Nat) : Int) = 9 from rfl]
          go_wp2
          go_roundw
          case rel => exact ⟨k + 1, _, by omega, by go_num, rfl, HR9, HG1⟩
          case measure => simp [intOf]; omega
    · obtain rfl : k = m := by omega
      have i1 : ¬ (k : Int) < (k : Int) := by omega
      obtain ⟨go, co, rfl, _⟩ := World.ownsRow.form HR.out.1 (by rw [outL_len]; omega)
      have HO : Hid (∀ i, i < 9 * k → wr.cell? ⟨go, i, none⟩ = some (.int .u8 (dgI u i))) := fun i hi => by
        rw [HR.out.1.cellAt i (by rw [outL_len]; omega)]
        unfold bl
        rw [List.getElem?_map, outL_at u _ i hi]
        rfl
      have hlen : (outL u (9 * k)).length = 9 * k := outL_len u _
      have HP : Hid (u < 10 ^ (9 * k)) := pow18 u k HU.out.2 HM.out
      have HGB : Hid (w.heap.size ≤ go ∧ go < wr.heap.size) := HR.out.lt go rfl
      have B3w : Hid (Below w2.heap.size w2 wr) := B23.out.trans (HGr.out.below B23.out.size (fun g hg => by rw [HV0.out] at hg; injection hg with hg; omega))
      have HK2 : Hid (k ≤ 2) := m1.2
      rw [hlen]
      clear hlen HR HGr R3 HG3
      go_wp2
      go_loop [8] (fun nn => ∃ n : Nat, n ≤ 9 * k ∧ nn = .int .i64 n ∧ Hid (u < 10 ^ n)) (fun nn => (intOf nn).toNat)
      case atStart => exact ⟨9 * k, by omega, by go_num, HP⟩
      case round =>
        obtain ⟨n, hn, rfl, HN⟩ := hrel
        have n0 : 0 < n := by
          rcases Nat.eq_zero_or_pos n with h | h
          · subst h; have := HN.out; have := HU.out; simp at *; omega
          · exact h
        have k2 := HK2.out
        have j0 : (0 : Int) < (n : Int) := by omega
        have j1 : (0 : Int) ≤ (n : Int) - 1 := by omega
        have j2 : (n : Int) - 1 < ((9 * k : Nat) : Int) := by omega
        have c1 := HO.out (n - 1) (by omega)
        have HDn : Hid (dgI u (n - 1) = ((48 + u / 10 ^ (n - 1) % 10 : Nat) : Int)) := rfl
        have ew : ((n - 1 : Nat) : Int) = (n : Int) - 1 := by omega
        have tn : ((n : Int) - 1).toNat = n - 1 := by omega
        generalize dgI u (n - 1) = z at c1 HDn
        by_cases hz : z = 48
        · have ez : (z == 48) = true := by simp [hz]
          have HN' : Hid (u < 10 ^ (n - 1)) := down_digit u (n - 1) (by rw [show n - 1 + 1 = n by omega]; exact HN.out) (by have := HDn.out; omega)
          clear hz
          go_wp2
          go_round
          case rel => exact ⟨n - 1, by omega, by go_num, HN'⟩
          case measure => simp [intOf]; omega
        · have ez : (z == 48) = false := by simp [hz]
          have HDg : Hid (Lib.nDigits u = n) := by
            have h1 := up_digit u (n - 1) (by have := HDn.out; omega)
            have := Lib.nDigits_unique (n - 1) u h1 (by rw [show n - 1 + 1 = n by omega]; exact HN.out)
            show _ = _
            omega
          clear hz HDn
          go_wp2_with (at_make; refine wpList_make_own _ rfl _ _ 31 rfl w.heap.size 5 i5 (.int .u8 0) 1 Tryd.underlying31 hi5 hz50 hz51 .i64 .i64 _ (n + 1) rfl rfl ?hC ?b2 ?b3 ?b4 ?_)
          case b2 => first | (rw [hz52]; omega) | omega
          case b3 => unfold maxLen; omega
          case b4 => have := B02.out.size; have := B3w.out.size; omega
          intro w4 hown hgrow
          have B4 : Hid (Below wr.heap.size wr w4) := ⟨hgrow.os, hgrow.tape, hgrow.output, hgrow.size, fun k hk => hgrow.block k hk (by simp)⟩
          have R4 : Hid (Rb w.heap.size w4 (.slice (some ⟨wr.heap.size, 0, none⟩) 0 (n + 1)) (revL u n 0)) := ⟨hown, by have := hgrow.size; have := B02.out.size; have := B3w.out.size; omega⟩
          obtain ⟨f0, f1, f2⟩ := HC.out
          have l0 := cell_nx ((B3w.out.cell (p := ⟨w.heap.size, 0, none⟩) HWL.out.1).trans f0) B4.out
          have l1 := cell_nx ((B3w.out.cell (p := ⟨w.heap.size, 1, none⟩) HWL.out.1).trans f1) B4.out
          have l2 := cell_nx ((B3w.out.cell (p := ⟨w.heap.size, 2, none⟩) HWL.out.1).trans f2) B4.out
          clear hown hgrow c1 f0 f1 f2
          obtain ⟨v4, hv4⟩ : ∃ v4, Value.slice (some ⟨wr.heap.size, 0, none⟩) 0 (n + 1) = v4 := ⟨_, rfl⟩
          have HV4 : Hid (v4.ownBlock = some wr.heap.size) := by rw [← hv4]; rfl
          rw [hv4] at R4 ⊢
          clear hv4
          go_wp2_with (go_at_call 36; refine (H78.out _).mono ?_; rintro e w5 ⟨rfl, B5⟩)
          have R5 : Hid (Rb w.heap.size w5 v4 (revL u n 0)) := R4.out.next B5
          have B05 : Hid (Below w.heap.size w w5) := (B02.out.trans (B3w.out.mono B02.out.size)).trans ((B4.out.trans (B5.mono B4.out.size)).mono (by have := B02.out.size; have := B3w.out.size; omega))
          have HO5 : Hid (∀ i, i < 9 * k → w5.cell? ⟨go, i, none⟩ = some (.int .u8 (dgI u i))) := fun i hi => cell_nx (cell_nx (HO.out i hi) B4.out) B5
          clear R4 B5 l0 l1 l2
          go_loopw [9, 10] (fun vv ii wx => ∃ (t : Nat) (p : Value), t ≤ n ∧ ii = .int .i64 ((n : Int) - 1 - (t : Int)) ∧ p = vv ∧ Hid (Rb w.heap.size wx p (revL u n t)) ∧ Hid (Gro w5 v4 wx p)) (fun _ ii _ => (intOf ii + 1).toNat)
          case atStart => exact ⟨0, v4, by omega, by go_num, rfl, R5, Gro.refl _ _⟩
          case round =>
            obtain ⟨t, p, ht, rfl, rfl, HR6, HG6⟩ := hrel
            by_cases htn : t < n
            · obtain ⟨s, hs⟩ : ∃ s : Nat, n - 1 - t = s := ⟨_, rfl⟩
              have es : (n : Int) - 1 - (t : Int) = (s : Int) := by omega
              rw [es]
              have s0 : (0 : Int) ≤ (s : Int) := by omega
              have s1 : (s : Int) < ((9 * k : Nat) : Int) := by omega
              have c6 : wr.cell? ⟨go, s, none⟩ = some (.int .u8 (dgI u s)) := HG6.out.cell (HO5.out s (by omega)) (by rw [HV4.out]; intro e; injection e with e; have := HGB.out; omega)
              have HS : Hid (n - 1 - t = s ∧ s < 9 * k) := ⟨hs, by omega⟩
              have y0 : 0 ≤ dgI u s := by unfold dgI; omega
              have y1 : dgI u s < 256 := by unfold dgI; omega
              have HY : Hid (revL u n (t + 1) = revL u n t ++ [dgI u s]) := by show _ = _; rw [revL_succ, hs]
              clear hs es
              generalize dgI u s = z at c6 y0 y1 HY
              go_wp2_with (at_builtin; refine wpList_append_lies _ rfl _ _ 31 rfl w.heap.size 5 i5 (.int .u8 0) 1 1 Tryd.underlying31 hi5 hz50 hz51 hz52 rfl (by decide) _ _ _ rfl (HR6.out.1.alloc _) ⟨wr.heap.size, 0, none⟩ 1 1 [.int .u8 z] rfl rfl ?c1 ?c2 (by decide) ?c3 ?c4 ?c5 _ rfl ?_)
              case c1 =>
                intro j u hj
                match j, hj with
                | 0, hj => simp at hj; subst hj; simp [Addr.add]
              case c2 => intro u hu; simp at hu; subst hu; rfl
              case c3 => rw [revL_len]; unfold maxLen; omega
              case c4 => rw [revL_len]; omega
              case c5 => have := HR6.out.2; simp; omega
              intro g' cap' w1 hown hgrow hat hlt
              have e1 : (revL u n t).length + 1 = (revL u n (t + 1)).length := by rw [revL_len, revL_len]
              have R1 : Hid (Rb w.heap.size w1 (.slice (some ⟨g', 0, none⟩) ((revL u n t).length + 1) cap') (revL u n (t + 1))) := by
                refine ⟨?_, ?_⟩
                · rw [← e1, HY.out, bl_app]
                  exact hown
                · have := hgrow.size; have := HR6.out.2; simp at *; omega
              have G1 : Hid (Gro w5 v4 w1 (.slice (some ⟨g', 0, none⟩) ((revL u n t).length + 1) cap')) := by
                refine (HG6.out.alloc _).trans ⟨hgrow, ?_⟩
                rcases hat with e | e
                · exact Or.inl e.symm
                · exact Or.inr ⟨g', rfl, by rw [e]; simp⟩
              generalize (revL u n t).length + 1 = q at R1 G1 ⊢
              clear e1 hown hgrow hat hlt c6
              go_wp2
              go_roundw
              case rel => exact ⟨t + 1, _, by omega, by have := HS.out; go_num, rfl, R1, G1⟩
              case measure => have := HS.out; simp [intOf] <;> omega
            · obtain rfl : t = n := by omega
              have s0 : ¬ (0 : Int) ≤ (t : Int) - 1 - (t : Int) := by omega
              have s0' : (t : Int) - 1 - (t : Int) < 0 := by omega
              obtain ⟨gt, ct, rfl, _⟩ := World.ownsRow.form HR6.out.1 (by rw [revL_len]; omega)
              have hl : (Lib.decDigits u).length = (revL u t t).length := by rw [Lib.decDigits_length, HDg.out, revL_len]
              have cv : (convert 31 9 (.slice (some ⟨gt, 0, none⟩) (revL u t t).length ct)).run Tryd.prog wr = .ok (.string ⟨(Lib.decDigits u).toArray⟩) wr := by
                rw [← hl]
                refine run_convert_bytes_back wr 31 9 5 ⟨gt, 0, none⟩ ct (Lib.decDigits u) Tryd.underlying31 Tryd.underlying5 Tryd.underlying9 (fun j hj => ?_)
                have h := HR6.out.1.cellAt j (by rw [← hl]; omega)
                have e : (bl (revL u t t))[j]? = some (.int .u8 ((revL u t t).getD j 0)) := by
                  unfold bl
                  rw [List.getElem?_map, List.getD_eq_getElem?_getD, List.getElem?_eq_getElem (by rw [← hl]; exact hj)]
                  rfl
                rw [dec_at u t HDg.out j hj]
                have ea : (⟨gt, 0, none⟩ : Addr).add j = ⟨gt, j, none⟩ := by simp [Addr.add]; intro h; omega
                rw [ea]
                exact h.trans e
              have BF : Hid (Below w.heap.size w wr) := B05.out.trans (HG6.out.below B05.out.size (fun g hg => by rw [HV4.out] at hg; injection hg with hg; have := B02.out.size; have := B3w.out.size; omega))
              generalize (revL u t t).length = q at cv ⊢
              clear HR6 HG6 hl
              go_wp2
              go_ret
              exact ⟨rfl, BF.out⟩
set_option maxRecDepth 100000 in
theorem num28 (v : Int) (w : World) (v0 : 0 ≤ v) (v1 : v < 4294967296) : Calls Tryd.prog 12 #[.int .i64 v] w fun e w' => e = .returned (.string ⟨(Lib.itoa v).toArray⟩) ∧ Below w.heap.size w w' := by
  obtain ⟨u, rfl⟩ : ∃ u : Nat, v = (u : Int) := ⟨v.toNat, by omega⟩
  have h53 := fun x => small53 u x (by omega)
  have h52 : ∀ x, Calls Tryd.prog 22 #[.agg #[.int .i64 (u : Int), .bool false, .slice none 0 0]] x fun e w' => e = .returned (.string ⟨(Lib.itoa (u : Int)).toArray⟩) ∧ Below x.heap.size x w' := by
    intro x
    have e : Lib.itoa (u : Int) = Lib.decDigits u := by unfold Lib.itoa; rw [if_neg (by omega)]; simp
    rw [e]
    by_cases h : u = 0
    · subst h
      rw [Lib.decDigits_one (by decide)]
      exact text_zero x
    · exact text52 u x (by omega) (by omega)
  generalize Lib.itoa (u : Int) = S at h52
  clear v0 v1
  go_enter Tryd.func12, Tryd.ntmps12
  go_wp2_with (first | (go_at_call 23; refine (h53 _).mono ?_; rintro e w1 ⟨rfl, B1⟩) | (go_at_call 22; refine (h52 _).mono ?_; rintro e w2 ⟨rfl, B2⟩))
  go_ret
  exact ⟨rfl, B1.trans (B2.mono B1.size)⟩
end Go.Proofs.YtdhhafmodkodbaaDoor
