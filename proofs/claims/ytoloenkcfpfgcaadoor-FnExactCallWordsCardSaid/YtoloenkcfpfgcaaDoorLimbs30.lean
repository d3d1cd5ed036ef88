/- Contract of the model's l1DivD: the long division of limbs gives the quotient and the remainder; conditions: at most 10,000 limbs, what divides has a last limb that is not 0. -/
import Derived.Test.YtoloenkcfpfgcaaDoorLimbs29
import Derived.Laws.AppendOwnNone
import Derived.Deep.DeepCutAuto
import Derived.Deep.Cut
namespace Go.Proofs.YtoloenkcfpfgcaaDoor
open Go.ChangeShapes Go.WideShapes Go.ChangeAt Go.RowKit
theorem addr0 (o i : Nat) : (⟨o, 0, none⟩ : Addr).add i = ⟨o, i, none⟩ := by unfold Addr.add; split <;> simp_all
/-- A row that is left over: none, or t limbs, the last one not 0. -/
def Left (w : World) (v : Value) (t : Nat) (f : Nat → Nat) : Prop :=
  (∀ i, f i < 1000000000) ∧ (t = 0 ∨ f (t - 1) ≠ 0) ∧ ((v = .slice none 0 0 ∧ t = 0) ∨ ∃ o c, v = .slice (some ⟨o, 0, none⟩) t c ∧ t ≤ c ∧ Limbs w o t f ∧ o < w.heap.size)
theorem Row.other {w : World} {o t : Nat} {f : Nat → Nat} (h : Row w o t f) (b j : Nat) (v : Value) (hne : b ≠ o) : Row (w.setCell ⟨b, j, none⟩ v) o t f :=
  ⟨fun i hi => by
    have hn : (⟨b, j, none⟩ : Addr) ≠ ⟨o, i, none⟩ := by intro k; injection k with k1 _; exact hne k1
    rw [World.cell?_setCell_other (h := hn)]; exact h.cell i hi, by simpa using h.hi, h.lt, h.top⟩
theorem cast_mul9 (c r : Nat) : ((c * 1000000000 + r : Nat) : Int) = (c : Int) * 1000000000 + (r : Int) := by omega
theorem cast_div (c r k : Nat) : ((c : Int) * 1000000000 + (r : Int)) / (k : Int) = (((c * 1000000000 + r) / k : Nat) : Int) := by
  rw [← cast_mul9]; exact (Int.natCast_ediv _ _).symm
theorem cast_mod (c r k : Nat) : ((c : Int) * 1000000000 + (r : Int)) % (k : Int) = (((c * 1000000000 + r) % k : Nat) : Int) := by
  rw [← cast_mul9]; exact (Int.natCast_emod _ _).symm
theorem left_slice {w : World} {v : Value} {t : Nat} {f : Nat → Nat} (r9 : ∀ i, f i < 1000000000) (rt : t = 0 ∨ f (t - 1) ≠ 0) (h : (v = .slice none 0 0 ∧ t = 0) ∨ ∃ o c, v = .slice (some ⟨o, 0, none⟩) t c ∧ t ≤ c ∧ Limbs w o t f ∧ o < w.heap.size) :
    ∃ pp cc, v = .slice pp t cc ∧ (0 < t → ∃ o, pp = some ⟨o, 0, none⟩ ∧ Row w o t f) := by
  rcases h with ⟨rfl, rfl⟩ | ⟨o, c, rfl, tc, hL, lo⟩
  · exact ⟨none, 0, rfl, fun h => absurd h (by omega)⟩
  · exact ⟨some ⟨o, 0, none⟩, c, rfl, fun _ => ⟨o, rfl, hL, lo, r9, rt⟩⟩
/-- The row that a round divides has at most one limb more than what divides. -/
theorem len_more (F B : Nat → Nat) (t MB R a : Nat) (b9 : ∀ i, B i < 1000000000) (top : t = 0 ∨ F (t - 1) ≠ 0) (ha : a < 1000000000) (hR : R < val B MB) (hv : val F t = a + 1000000000 * R) : t ≤ MB + 1 := by
  rcases Nat.lt_or_ge (MB + 1) t with h | h
  · have h1 := top_ge F t (by omega) (by rcases top with h0 | h0; omega; exact h0)
    have h2 := val_lt B MB (fun i _ => b9 i)
    have h3 : 1000000000 ^ (MB + 1) ≤ 1000000000 ^ (t - 1) := Nat.pow_le_pow_right (by decide) (by omega)
    have h4 : 1000000000 * (R + 1) ≤ 1000000000 * val B MB := Nat.mul_le_mul_left _ hR
    have h5 : 1000000000 * val B MB ≤ 1000000000 * 1000000000 ^ MB := Nat.mul_le_mul_left _ (by omega)
    rw [Nat.pow_succ, Nat.mul_comm] at h3
    omega
  · exact h
set_option maxRecDepth 100000 in
set_option maxHeartbeats 16000000 in
theorem divD (n m a b ca cb : Nat) (x y : Nat → Nat) (w : World) (hn : n ≤ 10000) (hm : m ≤ 10000) (ha : Limbs w a n x) (hb : Limbs w b (m + 1) y) (la : a < w.heap.size) (lb : b < w.heap.size) (hx : ∀ i, x i < 1000000000) (hy : ∀ i, y i < 1000000000) (top : y m ≠ 0) :
    Calls Tryd.prog 83 #[.slice (some ⟨a, 0, none⟩) n ca, .slice (some ⟨b, 0, none⟩) (m + 1) cb] w fun r w' => ∃ oq nq qf or nr cr rf, r = .returned (.tuple #[.slice (some ⟨oq, 0, none⟩) nq nq, .slice (some ⟨or, 0, none⟩) nr cr]) ∧ nq ≤ n + 2 ∧ nr ≤ cr ∧ nr ≤ m + 3 ∧ Raw w' oq nq qf ∧ Row w' or nr rf ∧ val qf nq = val x n / val y (m + 1) ∧ val rf nr = val x n % val y (m + 1) ∧ Below w.heap.size w w' := by
  obtain ⟨i0, hi', hz0, hz1, hz2⟩ := info_parts info23
  obtain ⟨T, hT⟩ : ∃ T, y m = T := ⟨_, rfl⟩
  have T9 := hy m
  rw [hT] at top T9
  obtain ⟨k, hk⟩ : ∃ k, 1000000000 / (T + 1) = k := ⟨_, rfl⟩
  have k1 : 0 < k := by rw [← hk]; exact Nat.div_pos (by omega) (by omega)
  have k2 : k ≤ 1000000000 := by rw [← hk]; exact Nat.div_le_self _ _
  obtain ⟨τ, hτ⟩ : ∃ τ : Int, (T : Int) = τ := ⟨_, rfl⟩
  obtain ⟨κ, hκ⟩ : ∃ κ : Int, (k : Int) = κ := ⟨_, rfl⟩
  have ct : w.cell? ⟨b, m, none⟩ = some (.int .u32 τ) := by rw [← hτ, ← hT]; exact hb m (by omega)
  have hkI : (1000000000 : Int) / (τ + 1) = κ := by rw [← hκ, ← hτ, ← hk]; simp
  have t0 : 0 ≤ τ := by omega
  have t9 : τ < 1000000000 := by omega
  have κ0 : 0 < κ := by omega
  have κ9 : κ ≤ 1000000000 := by omega
  have m1 : (0 : Int) ≤ (m : Int) := by omega
  have Vy : 0 < val y (m + 1) := Nat.lt_of_lt_of_le (Nat.pow_pos (by decide)) (top_ge y (m + 1) (by omega) (by simpa [hT] using top))
  have vA := val_mul_all n x k
  have vB := val_mul_all (m + 1) y k
  have tA := trim_le (mulDig n x k) (n + 1)
  have tB := trim_le (mulDig (m + 1) y k) (m + 1 + 1)
  rw [← val_trim] at vA vB
  have topB := trim_top (mulDig (m + 1) y k) (m + 1 + 1)
  have a9 : ∀ i, mulDig n x k i < 1000000000 := mulDig_lt n x k hx k2
  have b9 : ∀ i, mulDig (m + 1) y k i < 1000000000 := mulDig_lt (m + 1) y k hy k2
  obtain ⟨NA, hNA⟩ : ∃ NA, trim (mulDig n x k) (n + 1) = NA := ⟨_, rfl⟩
  obtain ⟨MB, hMB⟩ : ∃ MB, trim (mulDig (m + 1) y k) (m + 1 + 1) = MB := ⟨_, rfl⟩
  have mA := mulD_any n a ca k x w (by omega) ha la hx k2
  have mB := fun (w1 : World) (B1 : Below w.heap.size w w1) => mulD_any (m + 1) b cb k y w1 (by omega) (fun j hj => (B1.cell (p := ⟨b, j, none⟩) lb).trans (hb j hj)) (by have := B1.size; omega) hy k2
  rw [hNA] at vA tA mA
  rw [hMB] at vB tB topB mB
  obtain ⟨A, hAA⟩ : ∃ A, mulDig n x k = A := ⟨_, rfl⟩
  obtain ⟨Bf, hBB⟩ : ∃ Bf, mulDig (m + 1) y k = Bf := ⟨_, rfl⟩
  rw [hAA] at vA a9 mA
  rw [hBB] at vB topB b9 mB
  have M0 : 0 < MB := by
    rcases Nat.eq_zero_or_pos MB with h | h
    · subst h
      have : 0 < val y (m + 1) * k := Nat.mul_pos Vy k1
      rw [show val Bf 0 = 0 from rfl] at vB
      omega
    · exact h
  have topB' : Bf (MB - 1) ≠ 0 := by rcases topB with h | h; omega; exact h
  obtain ⟨M1, rfl⟩ : ∃ M1, MB = M1 + 1 := ⟨MB - 1, by omega⟩
  rw [Nat.add_sub_cancel] at topB'
  rw [hκ] at mA mB
  have HmA : Hid (Calls Tryd.prog 87 #[.slice (some ⟨a, 0, none⟩) n ca, .int .u64 κ] w fun r w' => r = .returned (.slice (some ⟨w.heap.size, 0, none⟩) NA (n + 1)) ∧ Own w' w.heap.size w.heap.size (n + 1) A ∧ Below w.heap.size w w') := mA
  have HmB : Hid (∀ (w1 : World), Below w.heap.size w w1 → Calls Tryd.prog 87 #[.slice (some ⟨b, 0, none⟩) (m + 1) cb, .int .u64 κ] w1 fun r w' => r = .returned (.slice (some ⟨w1.heap.size, 0, none⟩) (M1 + 1) (m + 1 + 1)) ∧ Own w' w1.heap.size w1.heap.size (m + 1 + 1) Bf ∧ Below w1.heap.size w1 w') := mB
  have Hκ : Hid ((k : Int) = κ) := hκ
  have HVy : Hid (0 < val y (m + 1)) := Vy
  clear mA mB hNA hMB hAA hBB topB hκ hτ hT hk Vy
  go_enter Tryd.func83, Tryd.ntmps83
  go_wp2_with (first | (go_at_call 87; (with_reducible show Calls Tryd.prog 87 _ w _); (try rw [hkI]); refine (Hid.out HmA).mono ?_; rintro e w1 ⟨rfl, O1, B1⟩) | (go_at_call 87; (try rw [hkI]); refine ((Hid.out HmB) w1 B1).mono ?_; rintro e w2 ⟨rfl, O2, B2⟩) | (at_make; refine wpList_make_full _ rfl _ _ 22 rfl w2.heap.size 23 i0 (.int .u32 0) 1 Tryd.underlying22 hi' hz0 hz1 _ _ _ _ (NA + 1) rfl rfl (by first | rfl | omega) (by first | rfl | omega) (by rw [hz2]; omega) (by unfold maxLen; omega) (Nat.le_refl _) ?_; intro w3 hown hgrow))
  have O3 : Own w3 w2.heap.size w2.heap.size (NA + 1) (fun _ => 0) := own_made hown (Nat.le_refl _) (hown.lt _ rfl).2
  have B3 : Below w2.heap.size w2 w3 := (Below.refl _ _).grown hgrow (Nat.le_refl _) (by simp)
  clear hown hgrow hkI t0 t9
  have LA : Limbs w2 w.heap.size NA A := fun j hj => (B2.cell (p := ⟨w.heap.size, j, none⟩) O1.hi).trans (O1.cell j (by omega))
  have RB2 : Row w2 w1.heap.size (M1 + 1) Bf := ⟨fun j hj => O2.cell j (by omega), O2.hi, b9, Or.inr (by simpa using topB')⟩
  have z1 := O1.hi
  have z2 := O2.hi
  have z3 := B1.size
  have z4 := B2.size
  have HLA : Hid (Limbs w2 w.heap.size NA A) := LA
  have HRB2 : Hid (Row w2 w1.heap.size (M1 + 1) Bf) := RB2
  have Ha9 : Hid (∀ i, A i < 1000000000) := a9
  have Hb9 : Hid (∀ i, Bf i < 1000000000) := b9
  have HtB : Hid (Bf M1 ≠ 0) := topB'
  have HvA : Hid (val A NA = val x n * k) := vA
  have HvB : Hid (val Bf (M1 + 1) = val y (m + 1) * k) := vB
  have B12 : Hid (Below w.heap.size w w2) := B1.trans (B2.mono B1.size)
  have HB0 : Hid (0 < val Bf (M1 + 1)) := by show 0 < _; rw [vB]; exact Nat.mul_pos HVy.out k1
  clear LA RB2 a9 b9 topB' vA vB O1 O2 HmA HmB ha hb ct T9 B1 B2 hx hy top
  have hNA' : NA ≤ 10001 := by omega
  have hMB' : M1 + 1 ≤ 10002 := by omega
  have hMBI : (M1 : Int) ≤ 10001 := by omega
  have hM0I : (0 : Int) ≤ (M1 : Int) := by omega
  go_loopw [9, 10] (fun rv iv wr => ∃ (i t : Nat) (rf qf : Nat → Nat), i ≤ NA ∧ iv = .int .i64 ((i : Int) - 1) ∧ Left wr rv t rf ∧ Own wr w2.heap.size w2.heap.size (NA + 1) qf ∧ (∀ j, qf j < 1000000000) ∧ (∀ j, j < i → qf j = 0) ∧ qf NA = 0 ∧ Hid (val A NA = val A i + val qf NA * val Bf (M1 + 1) + val rf t * 1000000000 ^ i) ∧ Hid (val rf t < val Bf (M1 + 1)) ∧ Below w2.heap.size w2 wr) (fun _ iv _ => (intOf iv + 1).toNat)
  case atStart => exact ⟨NA, 0, fun _ => 0, fun _ => 0, Nat.le_refl _, rfl, ⟨fun _ => by show 0 < 1000000000; decide, Or.inl rfl, Or.inl ⟨rfl, rfl⟩⟩, O3, fun _ => by show 0 < 1000000000; decide, fun _ _ => rfl, rfl, by show _ = _; rw [val_nought]; simp [val], HB0.out, B3⟩
  case round =>
    obtain ⟨i, t, rf, qf, hi, rfl, hL, OQ, q9, qz, qN, HV, HR, BQ⟩ := hrel
    clear O3 B3
    obtain ⟨r9, rt, hv⟩ := hL
    have zz := BQ.size
    have zq := OQ.hi
    have t4 : t ≤ M1 + 1 := by
      rcases Nat.lt_or_ge (M1 + 1) t with h | h
      · have := len_cmp (M1 + 1) t Bf rf Hb9.out h (by rcases rt with h0 | h0; omega; exact h0)
        have := HR.out
        omega
      · omega
    rcases i with _ | j
    · obtain ⟨pp, cc, rfl, hpp⟩ := left_slice r9 rt hv
      obtain ⟨wo, rfl⟩ : ∃ wo, wo = wr := ⟨wr, rfl⟩
      have t5 : (t : Int) ≤ 10002 := by omega
      have HV0 : Hid (val A NA = val qf NA * val Bf (M1 + 1) + val rf t) := by have h := HV.out; simp only [val, Nat.pow_zero, Nat.mul_one, Nat.zero_add] at h; exact h
      have Hpp : Hid (0 < t → ∃ o, pp = some ⟨o, 0, none⟩ ∧ Row wo o t rf) := hpp
      clear hv HV hpp
      go_wp2_with (at_make; refine wpList_make_full _ rfl _ _ 22 rfl wo.heap.size 23 i0 (.int .u32 0) 1 Tryd.underlying22 hi' hz0 hz1 _ _ _ _ t rfl rfl (by first | rfl | omega) (by first | rfl | omega) (by rw [hz2]; omega) (by unfold maxLen; omega) (Nat.le_refl _) ?_; intro w4 hown hgrow)
      have O4 : Own w4 wo.heap.size wo.heap.size t (fun _ => 0) := own_made hown (Nat.le_refl _) (hown.lt _ rfl).2
      have B4 : Below wo.heap.size wo w4 := (Below.refl _ _).grown hgrow (Nat.le_refl _) (by simp)
      clear hown hgrow
      go_loopw [15, 16] (fun cv iv wx => ∃ (i c : Nat) (of : Nat → Nat) (ξ : Int), i ≤ t ∧ iv = .int .i64 ((i : Int) - 1) ∧ cv = .int .u64 ξ ∧ Hid (ξ = (c : Int)) ∧ 0 ≤ ξ ∧ ξ < κ ∧ Own wx wo.heap.size wo.heap.size t of ∧ (∀ j, of j < 1000000000) ∧ (∀ j, j < i → of j = 0) ∧ Hid (val rf t = val rf i + val of t * k + c * 1000000000 ^ i) ∧ Below wo.heap.size wo wx) (fun _ iv _ => (intOf iv + 1).toNat)
      case atStart => exact ⟨t, 0, fun _ => 0, 0, Nat.le_refl _, rfl, rfl, rfl, by omega, by omega, O4, fun _ => by show 0 < 1000000000; decide, fun _ _ => rfl, by show _ = _; rw [val_nought]; simp, B4⟩
      case round =>
        clear O4 B4
        obtain ⟨i, c, of, ξ, hi3, rfl, rfl, Hξ, ξ0, ξκ, OO, o9, oz, HO, BO⟩ := hrel
        rcases i with _ | i
        · have HCT := cutR t wo.heap.size t of wr (by omega) (Nat.le_refl _) ⟨OO.cell, OO.hi, o9⟩
          go_wp2_with (go_at_call 88; refine HCT.mono ?_; rintro e w7 ⟨t7, rfl, ht7, R7, hv7, hw7⟩; subst w7)
          have OQ' := OQ.next BO
          have hd := div_out (val x n) (val y (m + 1)) k (val qf NA) (val rf t) k1 HVy.out (by rw [← HvA.out, ← HvB.out]; exact HV0.out) (by rw [← HvB.out]; exact HR.out)
          have hO := HO.out
          simp only [val, Nat.pow_zero, Nat.mul_one, Nat.zero_add] at hO
          have hl := last_out (val rf t) k (val of t) c (val x n % val y (m + 1)) k1 hO (by have h1 := Hξ.out; have h2 := Hκ.out; omega) hd.2
          have hq1 : val qf (NA + 1) = val x n / val y (m + 1) := by rw [← hd.1]; simp only [val, qN, Nat.zero_mul, Nat.add_zero]
          go_ret2
          exact ⟨w2.heap.size, NA + 1, qf, wo.heap.size, t7, t, of, rfl, by omega, ht7, by omega, ⟨OQ'.cell, OQ'.hi, q9⟩, R7, hq1, by rw [hv7]; exact hl.1, B12.out.trans ((BQ.trans (BO.mono BQ.size)).mono B12.out.size)⟩
        · have ei : ((i + 1 : Nat) : Int) - 1 = (i : Int) := by omega
          rw [ei]
          have i00 : (0 : Int) ≤ (i : Int) := by omega
          have i01 : (i : Int) < (t : Int) := by omega
          obtain ⟨o, hpo, RR⟩ := Hpp.out (by omega)
          subst hpo
          obtain ⟨ρ, hρ⟩ : ∃ ρ : Int, (rf i : Int) = ρ := ⟨_, rfl⟩
          have cr : wr.cell? ⟨o, i, none⟩ = some (.int .u32 ρ) := by rw [← hρ]; exact (RR.next BO).cell i (by omega)
          have ρ0 : 0 ≤ ρ := by omega
          have ρ9 : ρ < 1000000000 := by have := r9 i; omega
          obtain ⟨D, hD⟩ : ∃ D, (c * 1000000000 + rf i) / k = D := ⟨_, rfl⟩
          obtain ⟨E, hE⟩ : ∃ E, (c * 1000000000 + rf i) % k = E := ⟨_, rfl⟩
          obtain ⟨δ, hδ⟩ : ∃ δ : Int, (ξ * 1000000000 + ρ) / κ = δ := ⟨_, rfl⟩
          obtain ⟨ε, hε⟩ : ∃ ε : Int, (ξ * 1000000000 + ρ) % κ = ε := ⟨_, rfl⟩
          have hδD : δ = (D : Int) := by rw [← hδ, Hξ.out, ← hρ, ← Hκ.out, ← hD]; exact cast_div c (rf i) k
          have hεE : ε = (E : Int) := by rw [← hε, Hξ.out, ← hρ, ← Hκ.out, ← hE]; exact cast_mod c (rf i) k
          have D9 : D < 1000000000 := by rw [← hD, Nat.div_lt_iff_lt_mul k1]; have h1 := Hξ.out; have h2 := Hκ.out; have h3 : (c + 1) * 1000000000 ≤ k * 1000000000 := Nat.mul_le_mul_right _ (by omega); have h4 := r9 i; omega
          have E9 : E < k := by rw [← hE]; exact Nat.mod_lt _ k1
          have δ0 : 0 ≤ δ := by omega
          have δ9 : δ < 1000000000 := by omega
          have ε0 : 0 ≤ ε := by omega
          have εκ : ε < κ := by have h2 := Hκ.out; omega
          have fq := OO.free i
          have gq : wr.cell? ⟨wo.heap.size, i, none⟩ = some (.int .u32 0) := by have := OO.cell i (by omega); rw [oz i (by omega)] at this; exact this
          have hL3 := last_round rf of t i c k (by omega) (oz i (by omega)) HO.out
          rw [hD, hE] at hL3
          have HL3 : Hid (val rf t = val rf i + val (put of i D) t * k + E * 1000000000 ^ i) := hL3
          have HεE : Hid (ε = (E : Int)) := hεE
          have HδD : Hid (δ = (D : Int)) := hδD
          have HD9 : Hid (D < 1000000000) := D9
          clear hD hE hρ hL3 hεE hδD D9 E9
          go_wp2
          go_roundw
          case rel => exact ⟨i, E, put of i D, ε, by omega, rfl, by rw [hε], HεE, ε0, εκ, OO.set' i D δ HδD.out (by omega) (fun _ _ => rfl), fun j => by unfold put; split; exact HD9.out; exact o9 j, fun j hj => by unfold put; rw [if_neg (by omega)]; exact oz j (by omega), HL3, BO.setCell (Nat.le_refl _) _⟩
          case measure => simp [intOf]
    · have ej : ((j + 1 : Nat) : Int) - 1 = (j : Int) := by omega
      rw [ej]
      have j0 : (0 : Int) ≤ (j : Int) := by omega
      have j1 : (j : Int) < (NA : Int) := by omega
      have cA : wr.cell? ⟨w.heap.size, j, none⟩ = some (.int .u32 (A j : Int)) := (BQ.cell (p := ⟨w.heap.size, j, none⟩) (show w.heap.size < w2.heap.size by omega)).trans (HLA.out j (by omega))
      have hlit : (wr.alloc (.cells #[.int .u32 (A j : Int)] 23)).ownsRow wr.heap.size 23 1 (.slice (some ⟨wr.heap.size, 0, none⟩) 1 1) 1 [.int .u32 (A j : Int)] := World.ownsRow_lit wr #[.int .u32 (A j : Int)] 1 (Nat.le_refl _) (by unfold maxLen; omega) rfl
      have c9 : ∀ i, cons (A j) rf i < 1000000000 := fun i => by cases i with | zero => exact Ha9.out j | succ i => exact r9 i
      go_upto_region 11 with fail
      go_cut [11] from 41 to 111 (fun nv wx => ∃ g cap, nv = .slice (some ⟨g, 0, none⟩) (t + 1) cap ∧ t + 1 ≤ cap ∧ Limbs wx g (t + 1) (cons (A j) rf) ∧ g < wx.heap.size ∧ w2.heap.size < g ∧ Below wr.heap.size wr wx)
      case first =>
        rcases hv with ⟨rfl, rfl⟩ | ⟨o, c, rfl, tc, hLo, lo⟩
        · go_wp2_with (at_builtin; refine wpList_append_own_none rfl _ _ 22 rfl wr.heap.size 23 i0 1 Tryd.underlying22 hi' _ _ _ rfl hlit rfl ?_)
          go_meet
          exact ⟨wr.heap.size, 1, rfl, by omega, fun i hi => by obtain rfl : i = 0 := by omega
                                                                rw [hlit.cellAt 0 (by omega)]; rfl, by rw [World.size_alloc]; omega, by omega, (Below.refl _ _).alloc (Nat.le_refl _) _⟩
        · go_wp2_with (at_builtin; refine wpList_append_own _ rfl _ _ 22 rfl wr.heap.size 23 i0 (.int .u32 0) 1 4 Tryd.underlying22 hi' hz0 hz1 hz2 rfl (by decide) _ _ _ rfl hlit ⟨o, 0, none⟩ t c ((List.range t).map (fun i => Value.int .u32 (rf i : Int))) rfl (by simp) ?c1 ?c2 ?c3 ?c4 ?c5 ?_)
          case c1 =>
            intro i u hu
            obtain ⟨hl, he⟩ := List.getElem?_eq_some_iff.1 hu
            simp at hl he
            subst he
            rw [addr0, World.cell?_alloc_past _ _ _ lo]
            exact hLo i hl
          case c2 => intro u hu; simp at hu; obtain ⟨z, _, rfl⟩ := hu; rfl
          case c3 => unfold maxLen; omega
          case c4 => omega
          case c5 => rw [World.size_alloc]; omega
          intro v' wz hown' hgrow' hnil
          have hbz : Below wr.heap.size wr wz := ((Below.refl _ _).alloc (Nat.le_refl _) _).grown hgrow' (by rw [World.size_alloc]; omega) (fun q hq => by have h2 : some wr.heap.size = some q := hq; injection h2 with h3; omega)
          obtain ⟨g, cap, hv', hg, hgl, hgc, hcell⟩ : ∃ g cap, v' = .slice (some ⟨g, 0, none⟩) (t + 1) cap ∧ wr.heap.size ≤ g ∧ g < wz.heap.size ∧ t + 1 ≤ cap ∧ Limbs wz g (t + 1) (cons (A j) rf) := by
            have h' := hown'
            obtain ⟨_, ⟨h1, _⟩ | ⟨g, cap, cur, h1, hg1, r0, r1, r⟩⟩ := hown'
            · exact (hnil h1).elim
            · subst h1
              refine ⟨g, cap, by rw [Nat.add_comm], hg1, (h'.lt _ rfl).2, by omega, fun i hi => ?_⟩
              rw [h'.cellAt i (by omega)]
              cases i with
              | zero => rfl
              | succ i =>
                have hit : i < t := by omega
                simp [cons, hit]
          subst hv'
          clear hown' hgrow' hnil
          go_wp2
          go_meet
          exact ⟨g, cap, rfl, hgc, hcell, hgl, by omega, hbz⟩
      case rest =>
        obtain ⟨g, cap, rfl, hgc, hLg, hgl, hgq, hbz⟩ := hcut
        have OQz := OQ.next hbz
        have BQz := BQ.trans (hbz.mono zz)
        have vc := val_cons (A j) rf t
        have HCU := cutR (t + 1) g cap (cons (A j) rf) wc (by omega) hgc ⟨hLg, hgl, c9⟩
        obtain ⟨F, hF⟩ : ∃ F, cons (A j) rf = F := ⟨_, rfl⟩
        rw [hF] at vc c9 HCU
        have HCUT : Hid (Calls Tryd.prog 88 #[.slice (some ⟨g, 0, none⟩) (t + 1) cap] wc fun r w' => ∃ t', r = .returned (.slice (some ⟨g, 0, none⟩) t' cap) ∧ t' ≤ t + 1 ∧ Row wc g t' F ∧ val F t' = val F (t + 1) ∧ w' = wc) := HCU
        have Hvc : Hid (val F (t + 1) = A j + 1000000000 * val rf t) := vc
        have RBz : Row wc w1.heap.size (M1 + 1) Bf := HRB2.out.next BQz
        have HRBz : Hid (Row wc w1.heap.size (M1 + 1) Bf) := RBz
        clear hF HCU hlit cA vc RBz hLg c9 hv rt OQ
        have t5 : (t : Int) ≤ 10002 := by omega
        go_upto_region 13 with (go_at_call 88; refine (Hid.out HCUT).mono ?_; rintro e w' ⟨t', rfl, ht', RF, hvF, hw⟩; subst w')
        have HRF : Hid (Row wc g t' F) := RF
        have HvF : Hid (val F t' = A j + 1000000000 * val rf t) := hvF.trans Hvc.out
        have RFlt := RF.lt
        have HF9 : Hid (∀ i, F i < 1000000000) := RFlt
        have tM2 : t' ≤ M1 + 1 + 1 := len_more F Bf t' (M1 + 1) (val rf t) (A j) Hb9.out RF.top (Ha9.out j) HR.out HvF.out
        have HC := cmpR t' (M1 + 1) g w1.heap.size cap (m + 1 + 1) F Bf wc (by omega) RF HRBz.out
        clear RFlt RF hvF HCUT Hvc
        by_cases hlt : val F t' < val Bf (M1 + 1)
        · have HCM : Hid (Calls Tryd.prog 68 #[.slice (some ⟨g, 0, none⟩) t' cap, .slice (some ⟨w1.heap.size, 0, none⟩) (M1 + 1) (m + 1 + 1)] wc fun r w' => r = .returned (.int .i64 (-1)) ∧ ∃ q, w' = wc.drewN q) := by
            rw [show cmpZ (val F t') (val Bf (M1 + 1)) = -1 by unfold cmpZ; rw [if_pos (by omega)]] at HC
            exact HC
          have HN : Hid (val A NA = val A j + val qf NA * val Bf (M1 + 1) + val F t' * 1000000000 ^ j) := by
            show _ = _
            have hp : put qf j 0 = qf := by funext i; unfold put; split; rename_i e; rw [e, qz j (by omega)]; rfl
            have h := div_round A qf NA j (val rf t) (val F t') 0 (val Bf (M1 + 1)) (by omega) (qz j (by omega)) HV.out (by rw [HvF.out]; omega)
            rw [hp] at h
            exact h
          have HLT : Hid (val F t' < val Bf (M1 + 1)) := hlt
          clear HC hlt HR HV HvF
          go_wp2_with (first | (go_at_call 68; refine (Hid.out HCM).mono ?_; rintro e w' ⟨rfl, q, hq⟩; subst hq))
          go_roundw
          case rel => exact ⟨j, t', F, qf, by omega, rfl, ⟨HF9.out, HRF.out.top, Or.inr ⟨g, cap, rfl, by omega, HRF.out.cell, hgl⟩⟩, OQz.drewN _, q9, fun i hi => qz i (by omega), qN, HN, HLT, below_drewN BQz _⟩
          case measure => simp [intOf]
        · obtain ⟨C, hC⟩ : ∃ C, cmpZ (val F t') (val Bf (M1 + 1)) = C := ⟨_, rfl⟩
          have C0 : ¬ C < 0 := by rw [← hC]; unfold cmpZ; rw [if_neg (by omega)]; split <;> omega
          rw [hC] at HC
          have HCM : Hid (Calls Tryd.prog 68 #[.slice (some ⟨g, 0, none⟩) t' cap, .slice (some ⟨w1.heap.size, 0, none⟩) (M1 + 1) (m + 1 + 1)] wc fun r w' => r = .returned (.int .i64 C) ∧ ∃ q, w' = wc.drewN q) := HC
          have HGE : Hid (val Bf (M1 + 1) ≤ val F t') := by show _ ≤ _; omega
          have tM : M1 + 1 ≤ t' := HRBz.out.len_le HF9.out HGE.out
          have HRlt : Hid (val F t' < 1000000000 * val Bf (M1 + 1)) := by
            show _ < _
            have h1 := HR.out
            have h2 := Ha9.out j
            have h3 : 1000000000 * (val rf t + 1) ≤ 1000000000 * val Bf (M1 + 1) := Nat.mul_le_mul_left _ h1
            rw [HvF.out]; omega
          clear hC HC hlt
          obtain ⟨y1, hy1⟩ : ∃ y1 : Int, (Bf M1 : Int) = y1 := ⟨_, rfl⟩
          have y0 : 0 < y1 := by have := HtB.out; omega
          have y9 : y1 < 1000000000 := by have := Hb9.out M1; omega
          have cy : wc.cell? ⟨w1.heap.size, M1, none⟩ = some (.int .u32 y1) := by rw [← hy1]; exact HRBz.out.cell M1 (by omega)
          have Hy1 : Hid ((Bf M1 : Int) = y1) := hy1
          clear hy1
          have HMUL : Hid (∀ (G : Nat) (γ : Int) (wx : World), γ = (G : Int) → G ≤ 1000000000 → Row wx w1.heap.size (M1 + 1) Bf → Calls Tryd.prog 87 #[.slice (some ⟨w1.heap.size, 0, none⟩) (M1 + 1) (m + 1 + 1), .int .u64 γ] wx fun r w' => ∃ o t f c, r = .returned (.slice (some ⟨o, 0, none⟩) t c) ∧ t ≤ c ∧ t ≤ M1 + 1 + 1 ∧ Row w' o t f ∧ val f t = val Bf (M1 + 1) * G ∧ wx.heap.size ≤ o ∧ Below wx.heap.size wx w') := fun G γ wx h1 h2 h3 => mulR (M1 + 1) w1.heap.size (m + 1 + 1) G γ Bf wx (by omega) h3 h2 h1
          rcases (by omega : t' = M1 + 1 ∨ t' = M1 + 1 + 1) with rfl | rfl
          · obtain ⟨x1, hx1⟩ : ∃ x1 : Int, (F M1 : Int) = x1 := ⟨_, rfl⟩
            have cx : wc.cell? ⟨g, M1, none⟩ = some (.int .u32 x1) := by rw [← hx1]; exact HRF.out.cell M1 (by omega)
            have x9 : x1 < 1000000000 := by have := HF9.out M1; omega
            have x0 : 0 ≤ x1 := by omega
            obtain ⟨G, hG⟩ : ∃ G, F M1 / Bf M1 = G := ⟨_, rfl⟩
            obtain ⟨γ, hγ⟩ : ∃ γ : Int, x1 / y1 = γ := ⟨_, rfl⟩
            have hγG : γ = (G : Int) := by rw [← hγ, ← hx1, ← Hy1.out, ← hG]; simp
            have γ0 : 0 ≤ γ := by omega
            have g9 : G < 1000000000 := by rw [← hG]; exact Nat.lt_of_le_of_lt (Nat.div_le_self _ _) (HF9.out M1)
            have γ9 : γ < 1000000000 := by omega
            have HG : Hid (val F (M1 + 1) / val Bf (M1 + 1) ≤ G) := by show _ ≤ _; rw [← hG]; exact guess_same F Bf M1 HF9.out HtB.out
            have HγG : Hid (γ = (G : Int)) := hγG
            have γn : ¬ 1000000000 ≤ γ := by omega
            clear hx1 hG hγG
            have j2 : (j : Int) < (NA : Int) + 1 := by omega
            go_wp2_with (first | (go_at_call 68; refine (Hid.out HCM).mono ?_; rintro e w' ⟨rfl, q, hq⟩; subst hq; have cxq : (wc.drewN q).cell? ⟨g, M1, none⟩ = some (.int .u32 x1) := cx; have cyq : (wc.drewN q).cell? ⟨w1.heap.size, M1, none⟩ = some (.int .u32 y1) := cy) | (go_at_call 87; (try rw [hγ]); (try rw [← Hγγ.out]); refine ((Hid.out HMUL) G γ _ HγG.out (by omega) (HRBz.out.drewN q)).mono ?_; rintro e w5 ⟨op, tp, P, cp, rfl, tpc, tpm, RP, hvP, hop, hb5⟩))
            have Bw5 : Below wc.heap.size wc w5 := (below_drewN (Below.refl _ _) q).trans hb5
            have hop' : wc.heap.size ≤ op := hop
            clear hb5 hop

            go_loopw [12, 13] (fun gv pv wx => ∃ (G op tp cp : Nat) (P : Nat → Nat) (γ : Int), gv = .int .u64 γ ∧ pv = .slice (some ⟨op, 0, none⟩) tp cp ∧ tp ≤ cp ∧ tp ≤ M1 + 1 + 1 ∧ Hid (Row wx op tp P) ∧ Hid (val P tp = val Bf (M1 + 1) * G) ∧ Hid (γ = (G : Int)) ∧ 0 ≤ γ ∧ γ < 1000000000 ∧ Hid (val F (M1 + 1) / val Bf (M1 + 1) ≤ G) ∧ w2.heap.size < op ∧ Below wc.heap.size wc wx) (fun gv _ _ => (intOf gv).toNat)
            case atStart => exact ⟨G, op, tp, cp, P, _, rfl, rfl, tpc, tpm, RP, hvP, by first | exact HγG | (have h1 := HγG.out; have h2 := Hγγ.out; show _ = _; omega), by omega, by omega, HG, by omega, Bw5⟩
            case round =>
              clear HG HγG γ0 γ9 g9 RP hvP tpc tpm hop' Bw5 w5 hγ γn
              obtain ⟨G, op, tp, cp, P, γ, rfl, rfl, tpc, tpm, HRP, HvP, HγG, γ0, γ9, HG, hop, Bx⟩ := hrel
              have HRFx : Hid (Row wr g (M1 + 1) F) := HRF.out.next Bx
              have HRBx : Hid (Row wr w1.heap.size (M1 + 1) Bf) := HRBz.out.next Bx
              have HC2 := cmpR tp (M1 + 1) op g cp cap P F wr (by omega) HRP.out HRFx.out
              have zx := Bx.size
              by_cases hgt : val F (M1 + 1) < val P tp
              · have HCM2 : Hid (Calls Tryd.prog 68 #[.slice (some ⟨op, 0, none⟩) tp cp, .slice (some ⟨g, 0, none⟩) (M1 + 1) cap] wr fun r w' => r = .returned (.int .i64 1) ∧ ∃ q, w' = wr.drewN q) := by
                  rw [show cmpZ (val P tp) (val F (M1 + 1)) = 1 by unfold cmpZ; rw [if_neg (by omega), if_pos (by omega)]] at HC2
                  exact HC2
                have hdl := digit_less (val F (M1 + 1)) (val Bf (M1 + 1)) G HB0.out (by rw [Nat.mul_comm, ← HvP.out]; exact hgt)
                have G1 := hdl.2
                have γ1 : 1 ≤ γ := by have := HγG.out; omega
                obtain ⟨G', rfl⟩ : ∃ G', G = G' + 1 := ⟨G - 1, by omega⟩
                have HBP : Hid (val Bf (M1 + 1) ≤ val P tp) := by show _ ≤ _; rw [HvP.out, Nat.mul_succ]; omega
                have HSUB : Hid (∀ q, Calls Tryd.prog 69 #[.slice (some ⟨op, 0, none⟩) tp cp, .slice (some ⟨w1.heap.size, 0, none⟩) (M1 + 1) (m + 1 + 1)] (wr.drewN q) fun r w' => ∃ o f, r = .returned (.slice (some ⟨o, 0, none⟩) tp tp) ∧ Raw w' o tp f ∧ val f tp + val Bf (M1 + 1) = val P tp ∧ wr.heap.size ≤ o ∧ Below wr.heap.size (wr.drewN q) w') := fun q => subR tp (M1 + 1) op w1.heap.size cp (m + 1 + 1) P Bf (wr.drewN q) (by omega) (HRP.out.drewN q) (HRBx.out.drewN q) HBP.out
                have HDL : Hid (val F (M1 + 1) / val Bf (M1 + 1) ≤ G') := by have := hdl.1; show _ ≤ _; omega
                clear HC2 hgt hdl
                go_wp2_with (first | (go_at_call 68; refine (Hid.out HCM2).mono ?_; rintro e w' ⟨rfl, q, hq⟩; subst hq) | (go_at_call 69; refine ((Hid.out HSUB) q).mono ?_; rintro e w6 ⟨o6, f6, rfl, RW6, hv6, ho6, hb6⟩) | (go_at_call 88; refine (cutR tp o6 tp f6 w6 (by omega) (Nat.le_refl _) RW6).mono ?_; rintro e w7 ⟨t7, rfl, ht7, R7, hv7, hw7⟩; subst w7))
                go_roundw
                case rel => exact ⟨G', o6, t7, tp, f6, γ - 1, rfl, rfl, ht7, by omega, R7, by show _ = _; have h1 := HvP.out; rw [Nat.mul_succ] at h1; omega, by have h1 := HγG.out; show _ = _; omega, by omega, by omega, HDL, by omega, Bx.trans ((show Below wr.heap.size wr w6 from (below_drewN (Below.refl _ _) q).trans hb6).mono zx)⟩
                case measure => simp [intOf]; omega
              · obtain ⟨C2, hC2⟩ : ∃ C, cmpZ (val P tp) (val F (M1 + 1)) = C := ⟨_, rfl⟩
                have C20 : ¬ 0 < C2 := by rw [← hC2]; unfold cmpZ; split; omega; rw [if_neg (by omega)]; omega
                rw [hC2] at HC2
                have HCM2 : Hid (Calls Tryd.prog 68 #[.slice (some ⟨op, 0, none⟩) tp cp, .slice (some ⟨g, 0, none⟩) (M1 + 1) cap] wr fun r w' => r = .returned (.int .i64 C2) ∧ ∃ q, w' = wr.drewN q) := HC2
                have HPle : Hid (val P tp ≤ val F (M1 + 1)) := by show _ ≤ _; omega
                clear HC2 hC2 hgt
                have OQx := OQz.next Bx
                have fq := fun q => (OQx.drewN q).free j
                have gq : ∀ q, (wr.drewN q).cell? ⟨w2.heap.size, j, none⟩ = some (.int .u32 0) := fun q => by have := (OQx.drewN q).cell j (by omega); rw [qz j (by omega)] at this; exact this
                have eG : G = val F (M1 + 1) / val Bf (M1 + 1) := digit_eq _ _ _ HB0.out HG.out (by rw [Nat.mul_comm, ← HvP.out]; exact HPle.out)
                have HeG : Hid (G = val F (M1 + 1) / val Bf (M1 + 1)) := eG
                clear eG
                have HSUB : Hid (∀ q v, Calls Tryd.prog 69 #[.slice (some ⟨g, 0, none⟩) (M1 + 1) cap, .slice (some ⟨op, 0, none⟩) tp cp] ((wr.drewN q).setCell ⟨w2.heap.size, j, none⟩ v) fun r w' => ∃ o f, r = .returned (.slice (some ⟨o, 0, none⟩) (M1 + 1) (M1 + 1)) ∧ Raw w' o (M1 + 1) f ∧ val f (M1 + 1) + val P tp = val F (M1 + 1) ∧ wr.heap.size ≤ o ∧ Below wr.heap.size ((wr.drewN q).setCell ⟨w2.heap.size, j, none⟩ v) w') := fun q v => (subR (M1 + 1) tp g op cap cp F P ((wr.drewN q).setCell ⟨w2.heap.size, j, none⟩ v) (by omega) ((HRFx.out.drewN q).other _ _ _ (by omega)) ((HRP.out.drewN q).other _ _ _ (by omega)) HPle.out).mono fun e w' ⟨o, f, h1, h2, h3, h4, h5⟩ => ⟨o, f, h1, h2, h3, by simpa using h4, by simpa using h5⟩
                go_wp2_with (first | (go_at_call 68; refine (Hid.out HCM2).mono ?_; rintro e w' ⟨rfl, q, hq⟩; subst hq; have fq0 := fq q; have gq0 := gq q) | (go_at_call 69; refine ((Hid.out HSUB) q _).mono ?_; rintro e w6 ⟨o6, f6, rfl, RW6, hv6, ho6, hb6⟩) | (go_at_call 88; refine (cutR (M1 + 1) o6 (M1 + 1) f6 w6 (by omega) (Nat.le_refl _) RW6).mono ?_; rintro e w7 ⟨t7, rfl, ht7, R7, hv7, hw7⟩; subst w7))
                have OS : Own ((wr.drewN q).setCell ⟨w2.heap.size, j, none⟩ (.int .u32 γ)) w2.heap.size w2.heap.size (NA + 1) (put qf j G) := (OQx.drewN q).set' j G γ HγG.out (by omega) (fun _ _ => rfl)
                have BS : Below w2.heap.size w2 ((wr.drewN q).setCell ⟨w2.heap.size, j, none⟩ (.int .u32 γ)) := (below_drewN (BQz.trans (Bx.mono BQz.size)) q).setCell (Nat.le_refl _) _
                have hb6' : Below ((wr.drewN q).setCell ⟨w2.heap.size, j, none⟩ (.int .u32 γ)).heap.size ((wr.drewN q).setCell ⟨w2.heap.size, j, none⟩ (.int .u32 γ)) w6 := by simpa using hb6
                have hR' : val f6 t7 + G * val Bf (M1 + 1) = val F (M1 + 1) := by rw [hv7, Nat.mul_comm G, ← HvP.out]; exact hv6
                have hRlt : val f6 t7 < val Bf (M1 + 1) := by
                  have h1 := Nat.div_add_mod (val F (M1 + 1)) (val Bf (M1 + 1))
                  have h2 := Nat.mod_lt (val F (M1 + 1)) HB0.out
                  rw [← HeG.out, Nat.mul_comm] at h1
                  omega
                have hN := div_round A qf NA j (val rf t) (val f6 t7) G (val Bf (M1 + 1)) (by omega) (qz j (by omega)) HV.out (by have := HvF.out; omega)
                have γGn : (G : Int) < 1000000000 := by have := HγG.out; omega
                go_roundw
                case rel => exact ⟨j, t7, f6, put qf j G, by omega, rfl, ⟨R7.lt, R7.top, Or.inr ⟨o6, M1 + 1, rfl, ht7, R7.cell, R7.hi⟩⟩, OS.next hb6', fun i => by unfold put; split; omega; exact q9 i, fun i hi => by unfold put; rw [if_neg (by omega)]; exact qz i (by omega), by unfold put; rw [if_neg (by omega)]; exact qN, hN, hRlt, BS.trans (hb6'.mono (by simp; omega))⟩
                case measure => simp [intOf]
          · obtain ⟨x1, hx1⟩ : ∃ x1 : Int, (F (M1 + 1) : Int) = x1 := ⟨_, rfl⟩
            obtain ⟨x2, hx2⟩ : ∃ x2 : Int, (F M1 : Int) = x2 := ⟨_, rfl⟩
            have cx : wc.cell? ⟨g, M1 + 1, none⟩ = some (.int .u32 x1) := by rw [← hx1]; exact HRF.out.cell (M1 + 1) (by omega)
            have cx2 : wc.cell? ⟨g, M1, none⟩ = some (.int .u32 x2) := by rw [← hx2]; exact HRF.out.cell M1 (by omega)
            have x9 : x1 < 1000000000 := by have := HF9.out (M1 + 1); omega
            have x0 : 0 ≤ x1 := by omega
            have w9 : x2 < 1000000000 := by have := HF9.out M1; omega
            have w0 : 0 ≤ x2 := by omega
            obtain ⟨G0, hG⟩ : ∃ G, (F (M1 + 1) * 1000000000 + F M1) / Bf M1 = G := ⟨_, rfl⟩
            obtain ⟨γ0', hγ⟩ : ∃ γ : Int, (x1 * 1000000000 + x2) / y1 = γ := ⟨_, rfl⟩
            have hγG : γ0' = (G0 : Int) := by rw [← hγ, ← hx1, ← hx2, ← Hy1.out, ← hG]; simp
            have γ00 : 0 ≤ γ0' := by omega
            have HG0 : Hid (val F (M1 + 1 + 1) / val Bf (M1 + 1) ≤ G0) := by show _ ≤ _; rw [← hG]; exact guess_more F Bf M1 HF9.out HtB.out
            by_cases hbig : 1000000000 ≤ γ0'
            · obtain ⟨G, hGG⟩ : ∃ G, G = 999999999 := ⟨_, rfl⟩
              obtain ⟨γ, hγγ⟩ : ∃ γ : Int, γ = 999999999 := ⟨_, rfl⟩
              have HG : Hid (val F (M1 + 1 + 1) / val Bf (M1 + 1) ≤ G) := by show _ ≤ _; rw [hGG]; exact Nat.le_of_lt_succ (digit_lt _ _ HB0.out HRlt.out)
              have HγG : Hid (γ = (G : Int)) := by show _ = _; omega
              have γ0 : 0 ≤ γ := by omega
              have g9 : G < 1000000000 := by omega
              have γ9 : γ < 1000000000 := by omega
              have Hγγ : Hid (γ = 999999999) := hγγ
              clear hx1 hx2 hG hγG HG0 hGG hγγ
              have j2 : (j : Int) < (NA : Int) + 1 := by omega
              go_wp2_with (first | (go_at_call 68; refine (Hid.out HCM).mono ?_; rintro e w' ⟨rfl, q, hq⟩; subst hq; have cxq : (wc.drewN q).cell? ⟨g, M1 + 1, none⟩ = some (.int .u32 x1) := cx; have cxq2 : (wc.drewN q).cell? ⟨g, M1, none⟩ = some (.int .u32 x2) := cx2; have cyq : (wc.drewN q).cell? ⟨w1.heap.size, M1, none⟩ = some (.int .u32 y1) := cy) | (go_at_call 87; (try rw [hγ]); (try rw [← Hγγ.out]); refine ((Hid.out HMUL) G γ _ HγG.out (by omega) (HRBz.out.drewN q)).mono ?_; rintro e w5 ⟨op, tp, P, cp, rfl, tpc, tpm, RP, hvP, hop, hb5⟩))
              have Bw5 : Below wc.heap.size wc w5 := (below_drewN (Below.refl _ _) q).trans hb5
              have hop' : wc.heap.size ≤ op := hop
              clear hb5 hop

              go_loopw [12, 13] (fun gv pv wx => ∃ (G op tp cp : Nat) (P : Nat → Nat) (γ : Int), gv = .int .u64 γ ∧ pv = .slice (some ⟨op, 0, none⟩) tp cp ∧ tp ≤ cp ∧ tp ≤ M1 + 1 + 1 ∧ Hid (Row wx op tp P) ∧ Hid (val P tp = val Bf (M1 + 1) * G) ∧ Hid (γ = (G : Int)) ∧ 0 ≤ γ ∧ γ < 1000000000 ∧ Hid (val F (M1 + 1 + 1) / val Bf (M1 + 1) ≤ G) ∧ w2.heap.size < op ∧ Below wc.heap.size wc wx) (fun gv _ _ => (intOf gv).toNat)
              case atStart => exact ⟨G, op, tp, cp, P, _, rfl, rfl, tpc, tpm, RP, hvP, by first | exact HγG | (have h1 := HγG.out; have h2 := Hγγ.out; show _ = _; omega), by omega, by omega, HG, by omega, Bw5⟩
              case round =>
                clear HG HγG γ0 γ9 g9 RP hvP tpc tpm hop' Bw5 w5 hγ
                obtain ⟨G, op, tp, cp, P, γ, rfl, rfl, tpc, tpm, HRP, HvP, HγG, γ0, γ9, HG, hop, Bx⟩ := hrel
                have HRFx : Hid (Row wr g (M1 + 1 + 1) F) := HRF.out.next Bx
                have HRBx : Hid (Row wr w1.heap.size (M1 + 1) Bf) := HRBz.out.next Bx
                have HC2 := cmpR tp (M1 + 1 + 1) op g cp cap P F wr (by omega) HRP.out HRFx.out
                have zx := Bx.size
                by_cases hgt : val F (M1 + 1 + 1) < val P tp
                · have HCM2 : Hid (Calls Tryd.prog 68 #[.slice (some ⟨op, 0, none⟩) tp cp, .slice (some ⟨g, 0, none⟩) (M1 + 1 + 1) cap] wr fun r w' => r = .returned (.int .i64 1) ∧ ∃ q, w' = wr.drewN q) := by
                    rw [show cmpZ (val P tp) (val F (M1 + 1 + 1)) = 1 by unfold cmpZ; rw [if_neg (by omega), if_pos (by omega)]] at HC2
                    exact HC2
                  have hdl := digit_less (val F (M1 + 1 + 1)) (val Bf (M1 + 1)) G HB0.out (by rw [Nat.mul_comm, ← HvP.out]; exact hgt)
                  have G1 := hdl.2
                  have γ1 : 1 ≤ γ := by have := HγG.out; omega
                  obtain ⟨G', rfl⟩ : ∃ G', G = G' + 1 := ⟨G - 1, by omega⟩
                  have HBP : Hid (val Bf (M1 + 1) ≤ val P tp) := by show _ ≤ _; rw [HvP.out, Nat.mul_succ]; omega
                  have HSUB : Hid (∀ q, Calls Tryd.prog 69 #[.slice (some ⟨op, 0, none⟩) tp cp, .slice (some ⟨w1.heap.size, 0, none⟩) (M1 + 1) (m + 1 + 1)] (wr.drewN q) fun r w' => ∃ o f, r = .returned (.slice (some ⟨o, 0, none⟩) tp tp) ∧ Raw w' o tp f ∧ val f tp + val Bf (M1 + 1) = val P tp ∧ wr.heap.size ≤ o ∧ Below wr.heap.size (wr.drewN q) w') := fun q => subR tp (M1 + 1) op w1.heap.size cp (m + 1 + 1) P Bf (wr.drewN q) (by omega) (HRP.out.drewN q) (HRBx.out.drewN q) HBP.out
                  have HDL : Hid (val F (M1 + 1 + 1) / val Bf (M1 + 1) ≤ G') := by have := hdl.1; show _ ≤ _; omega
                  clear HC2 hgt hdl
                  go_wp2_with (first | (go_at_call 68; refine (Hid.out HCM2).mono ?_; rintro e w' ⟨rfl, q, hq⟩; subst hq) | (go_at_call 69; refine ((Hid.out HSUB) q).mono ?_; rintro e w6 ⟨o6, f6, rfl, RW6, hv6, ho6, hb6⟩) | (go_at_call 88; refine (cutR tp o6 tp f6 w6 (by omega) (Nat.le_refl _) RW6).mono ?_; rintro e w7 ⟨t7, rfl, ht7, R7, hv7, hw7⟩; subst w7))
                  go_roundw
                  case rel => exact ⟨G', o6, t7, tp, f6, γ - 1, rfl, rfl, ht7, by omega, R7, by show _ = _; have h1 := HvP.out; rw [Nat.mul_succ] at h1; omega, by have h1 := HγG.out; show _ = _; omega, by omega, by omega, HDL, by omega, Bx.trans ((show Below wr.heap.size wr w6 from (below_drewN (Below.refl _ _) q).trans hb6).mono zx)⟩
                  case measure => simp [intOf]; omega
                · obtain ⟨C2, hC2⟩ : ∃ C, cmpZ (val P tp) (val F (M1 + 1 + 1)) = C := ⟨_, rfl⟩
                  have C20 : ¬ 0 < C2 := by rw [← hC2]; unfold cmpZ; split; omega; rw [if_neg (by omega)]; omega
                  rw [hC2] at HC2
                  have HCM2 : Hid (Calls Tryd.prog 68 #[.slice (some ⟨op, 0, none⟩) tp cp, .slice (some ⟨g, 0, none⟩) (M1 + 1 + 1) cap] wr fun r w' => r = .returned (.int .i64 C2) ∧ ∃ q, w' = wr.drewN q) := HC2
                  have HPle : Hid (val P tp ≤ val F (M1 + 1 + 1)) := by show _ ≤ _; omega
                  clear HC2 hC2 hgt
                  have OQx := OQz.next Bx
                  have fq := fun q => (OQx.drewN q).free j
                  have gq : ∀ q, (wr.drewN q).cell? ⟨w2.heap.size, j, none⟩ = some (.int .u32 0) := fun q => by have := (OQx.drewN q).cell j (by omega); rw [qz j (by omega)] at this; exact this
                  have eG : G = val F (M1 + 1 + 1) / val Bf (M1 + 1) := digit_eq _ _ _ HB0.out HG.out (by rw [Nat.mul_comm, ← HvP.out]; exact HPle.out)
                  have HeG : Hid (G = val F (M1 + 1 + 1) / val Bf (M1 + 1)) := eG
                  clear eG
                  have HSUB : Hid (∀ q v, Calls Tryd.prog 69 #[.slice (some ⟨g, 0, none⟩) (M1 + 1 + 1) cap, .slice (some ⟨op, 0, none⟩) tp cp] ((wr.drewN q).setCell ⟨w2.heap.size, j, none⟩ v) fun r w' => ∃ o f, r = .returned (.slice (some ⟨o, 0, none⟩) (M1 + 1 + 1) (M1 + 1 + 1)) ∧ Raw w' o (M1 + 1 + 1) f ∧ val f (M1 + 1 + 1) + val P tp = val F (M1 + 1 + 1) ∧ wr.heap.size ≤ o ∧ Below wr.heap.size ((wr.drewN q).setCell ⟨w2.heap.size, j, none⟩ v) w') := fun q v => (subR (M1 + 1 + 1) tp g op cap cp F P ((wr.drewN q).setCell ⟨w2.heap.size, j, none⟩ v) (by omega) ((HRFx.out.drewN q).other _ _ _ (by omega)) ((HRP.out.drewN q).other _ _ _ (by omega)) HPle.out).mono fun e w' ⟨o, f, h1, h2, h3, h4, h5⟩ => ⟨o, f, h1, h2, h3, by simpa using h4, by simpa using h5⟩
                  go_wp2_with (first | (go_at_call 68; refine (Hid.out HCM2).mono ?_; rintro e w' ⟨rfl, q, hq⟩; subst hq; have fq0 := fq q; have gq0 := gq q) | (go_at_call 69; refine ((Hid.out HSUB) q _).mono ?_; rintro e w6 ⟨o6, f6, rfl, RW6, hv6, ho6, hb6⟩) | (go_at_call 88; refine (cutR (M1 + 1 + 1) o6 (M1 + 1 + 1) f6 w6 (by omega) (Nat.le_refl _) RW6).mono ?_; rintro e w7 ⟨t7, rfl, ht7, R7, hv7, hw7⟩; subst w7))
                  have OS : Own ((wr.drewN q).setCell ⟨w2.heap.size, j, none⟩ (.int .u32 γ)) w2.heap.size w2.heap.size (NA + 1) (put qf j G) := (OQx.drewN q).set' j G γ HγG.out (by omega) (fun _ _ => rfl)
                  have BS : Below w2.heap.size w2 ((wr.drewN q).setCell ⟨w2.heap.size, j, none⟩ (.int .u32 γ)) := (below_drewN (BQz.trans (Bx.mono BQz.size)) q).setCell (Nat.le_refl _) _
                  have hb6' : Below ((wr.drewN q).setCell ⟨w2.heap.size, j, none⟩ (.int .u32 γ)).heap.size ((wr.drewN q).setCell ⟨w2.heap.size, j, none⟩ (.int .u32 γ)) w6 := by simpa using hb6
                  have hR' : val f6 t7 + G * val Bf (M1 + 1) = val F (M1 + 1 + 1) := by rw [hv7, Nat.mul_comm G, ← HvP.out]; exact hv6
                  have hRlt : val f6 t7 < val Bf (M1 + 1) := by
                    have h1 := Nat.div_add_mod (val F (M1 + 1 + 1)) (val Bf (M1 + 1))
                    have h2 := Nat.mod_lt (val F (M1 + 1 + 1)) HB0.out
                    rw [← HeG.out, Nat.mul_comm] at h1
                    omega
                  have hN := div_round A qf NA j (val rf t) (val f6 t7) G (val Bf (M1 + 1)) (by omega) (qz j (by omega)) HV.out (by have := HvF.out; omega)
                  have γGn : (G : Int) < 1000000000 := by have := HγG.out; omega
                  go_roundw
                  case rel => exact ⟨j, t7, f6, put qf j G, by omega, rfl, ⟨R7.lt, R7.top, Or.inr ⟨o6, M1 + 1 + 1, rfl, ht7, R7.cell, R7.hi⟩⟩, OS.next hb6', fun i => by unfold put; split; omega; exact q9 i, fun i hi => by unfold put; rw [if_neg (by omega)]; exact qz i (by omega), by unfold put; rw [if_neg (by omega)]; exact qN, hN, hRlt, BS.trans (hb6'.mono (by simp; omega))⟩
                  case measure => simp [intOf]
            · obtain ⟨G, hGG⟩ : ∃ G, G = G0 := ⟨_, rfl⟩
              obtain ⟨γ, hγγ⟩ : ∃ γ : Int, γ = γ0' := ⟨_, rfl⟩
              have HG : Hid (val F (M1 + 1 + 1) / val Bf (M1 + 1) ≤ G) := by show _ ≤ _; rw [hGG]; exact HG0.out
              have HγG : Hid (γ = (G : Int)) := by show _ = _; omega
              have γ0 : 0 ≤ γ := by omega
              have g9 : G < 1000000000 := by omega
              have γ9 : γ < 1000000000 := by omega
              subst hγγ
              clear hx1 hx2 hG hγG HG0 hGG
              have j2 : (j : Int) < (NA : Int) + 1 := by omega
              go_wp2_with (first | (go_at_call 68; refine (Hid.out HCM).mono ?_; rintro e w' ⟨rfl, q, hq⟩; subst hq; have cxq : (wc.drewN q).cell? ⟨g, M1 + 1, none⟩ = some (.int .u32 x1) := cx; have cxq2 : (wc.drewN q).cell? ⟨g, M1, none⟩ = some (.int .u32 x2) := cx2; have cyq : (wc.drewN q).cell? ⟨w1.heap.size, M1, none⟩ = some (.int .u32 y1) := cy) | (go_at_call 87; (try rw [hγ]); (try rw [← Hγγ.out]); refine ((Hid.out HMUL) G γ _ HγG.out (by omega) (HRBz.out.drewN q)).mono ?_; rintro e w5 ⟨op, tp, P, cp, rfl, tpc, tpm, RP, hvP, hop, hb5⟩))
              have Bw5 : Below wc.heap.size wc w5 := (below_drewN (Below.refl _ _) q).trans hb5
              have hop' : wc.heap.size ≤ op := hop
              clear hb5 hop

              go_loopw [12, 13] (fun gv pv wx => ∃ (G op tp cp : Nat) (P : Nat → Nat) (γ : Int), gv = .int .u64 γ ∧ pv = .slice (some ⟨op, 0, none⟩) tp cp ∧ tp ≤ cp ∧ tp ≤ M1 + 1 + 1 ∧ Hid (Row wx op tp P) ∧ Hid (val P tp = val Bf (M1 + 1) * G) ∧ Hid (γ = (G : Int)) ∧ 0 ≤ γ ∧ γ < 1000000000 ∧ Hid (val F (M1 + 1 + 1) / val Bf (M1 + 1) ≤ G) ∧ w2.heap.size < op ∧ Below wc.heap.size wc wx) (fun gv _ _ => (intOf gv).toNat)
              case atStart => exact ⟨G, op, tp, cp, P, _, rfl, rfl, tpc, tpm, RP, hvP, by first | exact HγG | (have h1 := HγG.out; have h2 := Hγγ.out; show _ = _; omega), by omega, by omega, HG, by omega, Bw5⟩
              case round =>
                clear HG HγG γ0 γ9 g9 RP hvP tpc tpm hop' Bw5 w5 hγ
                obtain ⟨G, op, tp, cp, P, γ, rfl, rfl, tpc, tpm, HRP, HvP, HγG, γ0, γ9, HG, hop, Bx⟩ := hrel
                have HRFx : Hid (Row wr g (M1 + 1 + 1) F) := HRF.out.next Bx
                have HRBx : Hid (Row wr w1.heap.size (M1 + 1) Bf) := HRBz.out.next Bx
                have HC2 := cmpR tp (M1 + 1 + 1) op g cp cap P F wr (by omega) HRP.out HRFx.out
                have zx := Bx.size
                by_cases hgt : val F (M1 + 1 + 1) < val P tp
                · have HCM2 : Hid (Calls Tryd.prog 68 #[.slice (some ⟨op, 0, none⟩) tp cp, .slice (some ⟨g, 0, none⟩) (M1 + 1 + 1) cap] wr fun r w' => r = .returned (.int .i64 1) ∧ ∃ q, w' = wr.drewN q) := by
                    rw [show cmpZ (val P tp) (val F (M1 + 1 + 1)) = 1 by unfold cmpZ; rw [if_neg (by omega), if_pos (by omega)]] at HC2
                    exact HC2
                  have hdl := digit_less (val F (M1 + 1 + 1)) (val Bf (M1 + 1)) G HB0.out (by rw [Nat.mul_comm, ← HvP.out]; exact hgt)
                  have G1 := hdl.2
                  have γ1 : 1 ≤ γ := by have := HγG.out; omega
                  obtain ⟨G', rfl⟩ : ∃ G', G = G' + 1 := ⟨G - 1, by omega⟩
                  have HBP : Hid (val Bf (M1 + 1) ≤ val P tp) := by show _ ≤ _; rw [HvP.out, Nat.mul_succ]; omega
                  have HSUB : Hid (∀ q, Calls Tryd.prog 69 #[.slice (some ⟨op, 0, none⟩) tp cp, .slice (some ⟨w1.heap.size, 0, none⟩) (M1 + 1) (m + 1 + 1)] (wr.drewN q) fun r w' => ∃ o f, r = .returned (.slice (some ⟨o, 0, none⟩) tp tp) ∧ Raw w' o tp f ∧ val f tp + val Bf (M1 + 1) = val P tp ∧ wr.heap.size ≤ o ∧ Below wr.heap.size (wr.drewN q) w') := fun q => subR tp (M1 + 1) op w1.heap.size cp (m + 1 + 1) P Bf (wr.drewN q) (by omega) (HRP.out.drewN q) (HRBx.out.drewN q) HBP.out
                  have HDL : Hid (val F (M1 + 1 + 1) / val Bf (M1 + 1) ≤ G') := by have := hdl.1; show _ ≤ _; omega
                  clear HC2 hgt hdl
                  go_wp2_with (first | (go_at_call 68; refine (Hid.out HCM2).mono ?_; rintro e w' ⟨rfl, q, hq⟩; subst hq) | (go_at_call 69; refine ((Hid.out HSUB) q).mono ?_; rintro e w6 ⟨o6, f6, rfl, RW6, hv6, ho6, hb6⟩) | (go_at_call 88; refine (cutR tp o6 tp f6 w6 (by omega) (Nat.le_refl _) RW6).mono ?_; rintro e w7 ⟨t7, rfl, ht7, R7, hv7, hw7⟩; subst w7))
                  go_roundw
                  case rel => exact ⟨G', o6, t7, tp, f6, γ - 1, rfl, rfl, ht7, by omega, R7, by show _ = _; have h1 := HvP.out; rw [Nat.mul_succ] at h1; omega, by have h1 := HγG.out; show _ = _; omega, by omega, by omega, HDL, by omega, Bx.trans ((show Below wr.heap.size wr w6 from (below_drewN (Below.refl _ _) q).trans hb6).mono zx)⟩
                  case measure => simp [intOf]; omega
                · obtain ⟨C2, hC2⟩ : ∃ C, cmpZ (val P tp) (val F (M1 + 1 + 1)) = C := ⟨_, rfl⟩
                  have C20 : ¬ 0 < C2 := by rw [← hC2]; unfold cmpZ; split; omega; rw [if_neg (by omega)]; omega
                  rw [hC2] at HC2
                  have HCM2 : Hid (Calls Tryd.prog 68 #[.slice (some ⟨op, 0, none⟩) tp cp, .slice (some ⟨g, 0, none⟩) (M1 + 1 + 1) cap] wr fun r w' => r = .returned (.int .i64 C2) ∧ ∃ q, w' = wr.drewN q) := HC2
                  have HPle : Hid (val P tp ≤ val F (M1 + 1 + 1)) := by show _ ≤ _; omega
                  clear HC2 hC2 hgt
                  have OQx := OQz.next Bx
                  have fq := fun q => (OQx.drewN q).free j
                  have gq : ∀ q, (wr.drewN q).cell? ⟨w2.heap.size, j, none⟩ = some (.int .u32 0) := fun q => by have := (OQx.drewN q).cell j (by omega); rw [qz j (by omega)] at this; exact this
                  have eG : G = val F (M1 + 1 + 1) / val Bf (M1 + 1) := digit_eq _ _ _ HB0.out HG.out (by rw [Nat.mul_comm, ← HvP.out]; exact HPle.out)
                  have HeG : Hid (G = val F (M1 + 1 + 1) / val Bf (M1 + 1)) := eG
                  clear eG
                  have HSUB : Hid (∀ q v, Calls Tryd.prog 69 #[.slice (some ⟨g, 0, none⟩) (M1 + 1 + 1) cap, .slice (some ⟨op, 0, none⟩) tp cp] ((wr.drewN q).setCell ⟨w2.heap.size, j, none⟩ v) fun r w' => ∃ o f, r = .returned (.slice (some ⟨o, 0, none⟩) (M1 + 1 + 1) (M1 + 1 + 1)) ∧ Raw w' o (M1 + 1 + 1) f ∧ val f (M1 + 1 + 1) + val P tp = val F (M1 + 1 + 1) ∧ wr.heap.size ≤ o ∧ Below wr.heap.size ((wr.drewN q).setCell ⟨w2.heap.size, j, none⟩ v) w') := fun q v => (subR (M1 + 1 + 1) tp g op cap cp F P ((wr.drewN q).setCell ⟨w2.heap.size, j, none⟩ v) (by omega) ((HRFx.out.drewN q).other _ _ _ (by omega)) ((HRP.out.drewN q).other _ _ _ (by omega)) HPle.out).mono fun e w' ⟨o, f, h1, h2, h3, h4, h5⟩ => ⟨o, f, h1, h2, h3, by simpa using h4, by simpa using h5⟩
                  go_wp2_with (first | (go_at_call 68; refine (Hid.out HCM2).mono ?_; rintro e w' ⟨rfl, q, hq⟩; subst hq; have fq0 := fq q; have gq0 := gq q) | (go_at_call 69; refine ((Hid.out HSUB) q _).mono ?_; rintro e w6 ⟨o6, f6, rfl, RW6, hv6, ho6, hb6⟩) | (go_at_call 88; refine (cutR (M1 + 1 + 1) o6 (M1 + 1 + 1) f6 w6 (by omega) (Nat.le_refl _) RW6).mono ?_; rintro e w7 ⟨t7, rfl, ht7, R7, hv7, hw7⟩; subst w7))
                  have OS : Own ((wr.drewN q).setCell ⟨w2.heap.size, j, none⟩ (.int .u32 γ)) w2.heap.size w2.heap.size (NA + 1) (put qf j G) := (OQx.drewN q).set' j G γ HγG.out (by omega) (fun _ _ => rfl)
                  have BS : Below w2.heap.size w2 ((wr.drewN q).setCell ⟨w2.heap.size, j, none⟩ (.int .u32 γ)) := (below_drewN (BQz.trans (Bx.mono BQz.size)) q).setCell (Nat.le_refl _) _
                  have hb6' : Below ((wr.drewN q).setCell ⟨w2.heap.size, j, none⟩ (.int .u32 γ)).heap.size ((wr.drewN q).setCell ⟨w2.heap.size, j, none⟩ (.int .u32 γ)) w6 := by simpa using hb6
                  have hR' : val f6 t7 + G * val Bf (M1 + 1) = val F (M1 + 1 + 1) := by rw [hv7, Nat.mul_comm G, ← HvP.out]; exact hv6
                  have hRlt : val f6 t7 < val Bf (M1 + 1) := by
                    have h1 := Nat.div_add_mod (val F (M1 + 1 + 1)) (val Bf (M1 + 1))
                    have h2 := Nat.mod_lt (val F (M1 + 1 + 1)) HB0.out
                    rw [← HeG.out, Nat.mul_comm] at h1
                    omega
                  have hN := div_round A qf NA j (val rf t) (val f6 t7) G (val Bf (M1 + 1)) (by omega) (qz j (by omega)) HV.out (by have := HvF.out; omega)
                  have γGn : (G : Int) < 1000000000 := by have := HγG.out; omega
                  go_roundw
                  case rel => exact ⟨j, t7, f6, put qf j G, by omega, rfl, ⟨R7.lt, R7.top, Or.inr ⟨o6, M1 + 1 + 1, rfl, ht7, R7.cell, R7.hi⟩⟩, OS.next hb6', fun i => by unfold put; split; omega; exact q9 i, fun i hi => by unfold put; rw [if_neg (by omega)]; exact qz i (by omega), by unfold put; rw [if_neg (by omega)]; exact qN, hN, hRlt, BS.trans (hb6'.mono (by simp; omega))⟩
                  case measure => simp [intOf]
end Go.Proofs.YtoloenkcfpfgcaaDoor
