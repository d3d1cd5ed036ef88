/- The model's WithMips. -/
import Derived.Test.YthkngcdfnemhaaaBh
import Derived.Deep.RegionHeld3
namespace Go.Proofs.Ythkngcdfnemhaaa
open Go.ChangeShapes Go.WideShapes Go.ChangeAt Go.RowKit
set_option linter.unusedVariables false
set_option maxRecDepth 100000 in
set_option maxHeartbeats 8000000 in
theorem mmips (s y l : Int) (x : Value) (Cs : List Col) (w : World) (X : KRow w x Cs) (hn : Cs.length ≤ 1048576) : Calls Try.prog 29 #[.int .i64 s, .int .i64 y, .int .i64 l, x] w fun e w' => ∃ a us, e = .returned (.tuple #[a, .bool (wmB s y l Cs)]) ∧ MpA w.heap.size w' a s y l Cs us ∧ Below w.heap.size w w' := by
  have HS1 : Hid (∀ w, Calls Try.prog 48 #[.int .i64 s] w fun e w' => e = .returned (.bool (gsB s)) ∧ w' = w) := fun w => side48 s w
  have HS2 : Hid (∀ w, Calls Try.prog 48 #[.int .i64 y] w fun e w' => e = .returned (.bool (gsB y)) ∧ w' = w) := fun w => side48 y w
  have HSZ : Hid (∀ w, Calls Try.prog 44 #[.int .i64 l] w fun e w' => e = .returned (.int .i64 ((szF l : Nat) : Int)) ∧ w' = w) := fun w => size44 l w
  have HXX : Hid (∀ w', Below w.heap.size w w' → KRow w' x Cs) := fun w' b => X.next b
  obtain ⟨xa, xc, rfl, -⟩ := X
  have D0 := C4.new w 43 (.int .i64 0) (.int .i64 0) (.int .i64 0) (.slice none 0 0)
  have BX0 : Below w.heap.size w (w.alloc (.cells #[.int .i64 0, .int .i64 0, .int .i64 0, .slice none 0 0] 43)) := alloc_b
  obtain ⟨V0, hV0⟩ : ∃ z, w.alloc (.cells #[.int .i64 0, .int .i64 0, .int .i64 0, .slice none 0 0] 43) = z := ⟨_, rfl⟩
  have HV0 := Hid.mk hV0
  rw [hV0] at D0 BX0
  clear hV0
  have x0 := D0.c0
  have x1 := D0.c1
  have x2 := D0.c2
  have x3 := D0.c3
  have xf := D0.f
  cases h1 : gsB s
  · have hB : wmB s y l Cs = false := by unfold wmB; rw [h1]; cases fmB l <;> rfl
    rw [hB]
    rw [h1] at HS1
    go_enter Try.func29, Try.ntmps29
    go_upto_region 1 with fail
    rw [HV0.out]
    clear HV0
    go_wp2_with (first | (go_at_call 48; (with_reducible show Calls Try.prog 48 #[.int .i64 s] _ _); refine (HS1.out _).mono ?_; rintro e9 w9 ⟨rfl, hw⟩; subst w9) | (go_at_call 48; (with_reducible show Calls Try.prog 48 #[.int .i64 y] _ _); refine (HS2.out _).mono ?_; rintro e9 w9 ⟨rfl, hw⟩; subst w9) | (go_at_call 44; refine (HSZ.out _).mono ?_; rintro e9 w9 ⟨rfl, hw⟩; subst w9))
    clear x0 x1 x2 x3 xf
    have D6 := D0.put (.int .i64 0) (.int .i64 0) (.int .i64 0) (.slice none 0 0)
    have B06 : Below w.heap.size w (set4 V0 w.heap.size (.int .i64 0) (.int .i64 0) (.int .i64 0) (.slice none 0 0)) := BX0.trans ((only_set4 V0 w.heap.size (.int .i64 0) (.int .i64 0) (.int .i64 0) (.slice none 0 0)).below (Nat.le_refl _) BX0.size)
    unfold set4 at D6 B06
    have r0 := D6.c0
    have r1 := D6.c1
    have r2 := D6.c2
    have r3 := D6.c3
    exact bodyPost_ret (v := .tuple #[.agg #[.int .i64 0, .int .i64 0, .int .i64 0, .slice none 0 0], .bool false]) (by simp [results, Try.results29, go_sem, r0, r1, r2, r3]) rfl ⟨_, [], rfl, MpA.none _ hB (by have := B06.size; omega), B06⟩
  rw [h1] at HS1
  cases h2 : gsB y
  · have hB : wmB s y l Cs = false := by unfold wmB; rw [h1, h2]; cases fmB l <;> rfl
    rw [hB]
    rw [h2] at HS2
    go_enter Try.func29, Try.ntmps29
    go_upto_region 1 with fail
    rw [HV0.out]
    clear HV0
    go_wp2_with (first | (go_at_call 48; (with_reducible show Calls Try.prog 48 #[.int .i64 s] _ _); refine (HS1.out _).mono ?_; rintro e9 w9 ⟨rfl, hw⟩; subst w9) | (go_at_call 48; (with_reducible show Calls Try.prog 48 #[.int .i64 y] _ _); refine (HS2.out _).mono ?_; rintro e9 w9 ⟨rfl, hw⟩; subst w9) | (go_at_call 44; refine (HSZ.out _).mono ?_; rintro e9 w9 ⟨rfl, hw⟩; subst w9))
    clear x0 x1 x2 x3 xf
    have D6 := D0.put (.int .i64 0) (.int .i64 0) (.int .i64 0) (.slice none 0 0)
    have B06 : Below w.heap.size w (set4 V0 w.heap.size (.int .i64 0) (.int .i64 0) (.int .i64 0) (.slice none 0 0)) := BX0.trans ((only_set4 V0 w.heap.size (.int .i64 0) (.int .i64 0) (.int .i64 0) (.slice none 0 0)).below (Nat.le_refl _) BX0.size)
    unfold set4 at D6 B06
    have r0 := D6.c0
    have r1 := D6.c1
    have r2 := D6.c2
    have r3 := D6.c3
    exact bodyPost_ret (v := .tuple #[.agg #[.int .i64 0, .int .i64 0, .int .i64 0, .slice none 0 0], .bool false]) (by simp [results, Try.results29, go_sem, r0, r1, r2, r3]) rfl ⟨_, [], rfl, MpA.none _ hB (by have := B06.size; omega), B06⟩
  rw [h2] at HS2
  cases h3 : fmB l
  · have hB : wmB s y l Cs = false := by unfold wmB; rw [h3]; rfl
    rw [hB]
    have hz : ((szF l : Nat) : Int) = 0 := by
      have e : szF l = 0 := by
        unfold fmB at h3
        simp only [Bool.or_eq_false_iff, decide_eq_false_iff_not] at h3
        unfold szF
        rw [if_neg h3.1, if_neg h3.2.1, if_neg h3.2.2]
      rw [e]; rfl
    rw [hz] at HSZ
    clear hz
    go_enter Try.func29, Try.ntmps29
    go_upto_region 1 with fail
    rw [HV0.out]
    clear HV0
    go_wp2_with (first | (go_at_call 48; (with_reducible show Calls Try.prog 48 #[.int .i64 s] _ _); refine (HS1.out _).mono ?_; rintro e9 w9 ⟨rfl, hw⟩; subst w9) | (go_at_call 48; (with_reducible show Calls Try.prog 48 #[.int .i64 y] _ _); refine (HS2.out _).mono ?_; rintro e9 w9 ⟨rfl, hw⟩; subst w9) | (go_at_call 44; refine (HSZ.out _).mono ?_; rintro e9 w9 ⟨rfl, hw⟩; subst w9))
    clear x0 x1 x2 x3 xf
    have D6 := D0.put (.int .i64 0) (.int .i64 0) (.int .i64 0) (.slice none 0 0)
    have B06 : Below w.heap.size w (set4 V0 w.heap.size (.int .i64 0) (.int .i64 0) (.int .i64 0) (.slice none 0 0)) := BX0.trans ((only_set4 V0 w.heap.size (.int .i64 0) (.int .i64 0) (.int .i64 0) (.slice none 0 0)).below (Nat.le_refl _) BX0.size)
    unfold set4 at D6 B06
    have r0 := D6.c0
    have r1 := D6.c1
    have r2 := D6.c2
    have r3 := D6.c3
    exact bodyPost_ret (v := .tuple #[.agg #[.int .i64 0, .int .i64 0, .int .i64 0, .slice none 0 0], .bool false]) (by simp [results, Try.results29, go_sem, r0, r1, r2, r3]) rfl ⟨_, [], rfl, MpA.none _ hB (by have := B06.size; omega), B06⟩
  have hf : l = 1 ∨ l = 2 ∨ l = 3 := by
    rcases fm_cases l with h | h | h | h
    · exact Or.inl h
    · exact Or.inr (Or.inl h)
    · exact Or.inr (Or.inr h)
    · rw [(fm_no h).2.1] at h3; cases h3
  have hz : 1 ≤ szF l ∧ szF l ≤ 4 := by rcases hf with rfl | rfl | rfl <;> decide
  have c0 : (((szF l : Nat) : Int) == 0) = false := by simp; omega
  have c1 : ¬ ((szF l : Nat) : Int) = 0 := by omega
  have HLK : Hid (∀ i, 1 ≤ (pkK l (Cs.getD i dC)).length ∧ (pkK l (Cs.getD i dC)).length ≤ 4) := fun i => by rw [pk_len hf]; exact hz
  have hs := gsB_iff.1 h1
  have hy := gsB_iff.1 h2
  obtain ⟨p0, p1⟩ := wm_area hs hy
  obtain ⟨P, hP⟩ : ∃ z, s * y = z := ⟨_, rfl⟩
  rw [hP] at p0 p1
  have hPw : IntKind.i64.wrap P = P := (IntKind.wrap_i64 _).trans (by omega)
  obtain ⟨Z, hZ⟩ : ∃ Z : Int, ((szF l : Nat) : Int) = Z := ⟨_, rfl⟩
  have HZ := Hid.mk hZ
  have HSF := Hid.mk hz
  rw [hZ] at HSZ c0 c1
  clear hZ hz
  by_cases h5 : (Cs.length : Int) = P
  case neg =>
    have hB : wmB s y l Cs = false := by unfold wmB; rw [h1, h2, h3, hP, decide_eq_false h5]; rfl
    rw [hB]
    generalize Cs.length = n at *
    have c2 : ((n : Int) == P) = false := by simp; exact h5
    have c3 : ((n : Int) != P) = true := by simp; exact h5
    go_enter Try.func29, Try.ntmps29
    go_upto_region 1 with fail
    rw [HV0.out]
    clear HV0
    go_wp2_with (first | (go_at_call 48; (with_reducible show Calls Try.prog 48 #[.int .i64 s] _ _); refine (HS1.out _).mono ?_; rintro e9 w9 ⟨rfl, hw⟩; subst w9) | (go_at_call 48; (with_reducible show Calls Try.prog 48 #[.int .i64 y] _ _); refine (HS2.out _).mono ?_; rintro e9 w9 ⟨rfl, hw⟩; subst w9) | (go_at_call 44; refine (HSZ.out _).mono ?_; rintro e9 w9 ⟨rfl, hw⟩; subst w9))
    clear x0 x1 x2 x3 xf
    have D6 := D0.put (.int .i64 0) (.int .i64 0) (.int .i64 0) (.slice none 0 0)
    have B06 : Below w.heap.size w (set4 V0 w.heap.size (.int .i64 0) (.int .i64 0) (.int .i64 0) (.slice none 0 0)) := BX0.trans ((only_set4 V0 w.heap.size (.int .i64 0) (.int .i64 0) (.int .i64 0) (.slice none 0 0)).below (Nat.le_refl _) BX0.size)
    unfold set4 at D6 B06
    have r0 := D6.c0
    have r1 := D6.c1
    have r2 := D6.c2
    have r3 := D6.c3
    exact bodyPost_ret (v := .tuple #[.agg #[.int .i64 0, .int .i64 0, .int .i64 0, .slice none 0 0], .bool false]) (by simp [results, Try.results29, go_sem, r0, r1, r2, r3]) rfl ⟨_, [], rfl, MpA.none _ hB (by have := B06.size; omega), B06⟩
  have c2 : ((Cs.length : Int) == P) = true := by simp; exact h5
  have c3 : ((Cs.length : Int) != P) = false := by simp; exact h5
  have HLN : Hid (∀ m, m ≤ 256 → (catB (fun i => pkK l (Cs.getD i dC)) m).length ≤ 90000) := fun m hm => by
    rw [cat_len (g := fun i => pkK l (Cs.getD i dC)) (z := szF l) m (fun i _ => pk_len hf _)]
    have h4 := HSF.out.2
    have h5 : m * szF l ≤ 256 * 4 := Nat.mul_le_mul hm h4
    omega
  have HXC : Hid (∀ w', Below w.heap.size w w' → ∀ i, i < Cs.length → ∃ g o, xa = some ⟨g, o, none⟩ ∧ w'.cell? ⟨g, o + i * 4, none⟩ = some (.int .i64 (Cs.getD i dC).r) ∧ w'.cell? ⟨g, o + i * 4 + 1, none⟩ = some (.int .i64 (Cs.getD i dC).g) ∧ w'.cell? ⟨g, o + i * 4 + 2, none⟩ = some (.int .i64 (Cs.getD i dC).b) ∧ w'.cell? ⟨g, o + i * 4 + 3, none⟩ = some (.int .i64 (Cs.getD i dC).a)) := fun w' b i hi => by
    obtain ⟨ad, c, e1, hc⟩ := HXX.out w' b
    injection e1 with e1 _ _
    subst e1
    exact hc i hi
  have HGK : Hid (∀ i, (fun i => pkK l (Cs.getD i dC)) i = pkK l (Cs.getD i dC)) := fun _ => rfl
  clear HXX
  cases h4 : Cs.all kgB
  · have hB : wmB s y l Cs = false := by unfold wmB; rw [h1, h2, h4]; simp
    rw [hB]
    have HNO : Hid (¬ ∀ i, i < Cs.length → kgB (Cs.getD i dC) = true) := fun h => by
      have : Cs.all kgB = true := by
        rw [List.all_eq_true]
        intro c hc
        obtain ⟨i, hi, rfl⟩ := List.mem_iff_getElem.1 hc
        have := h i hi
        simpa [List.getD, hi] using this
      rw [this] at h4; cases h4
    generalize (fun i => pkK l (Cs.getD i dC)) = g0 at HLN HGK
    have HP3 := Hid.mk h5
    have hnb : Cs.length ≤ 256 := by omega
    clear h1 h2 h3 h4 hs hy h5 hf
    generalize Cs.length = n at *
    go_enter Try.func29, Try.ntmps29
    go_upto_region 1 with fail
    rw [HV0.out]
    clear HV0
    go_upto_region 6 with (first | (go_at_call 48; (with_reducible show Calls Try.prog 48 #[.int .i64 s] _ _); refine (HS1.out _).mono ?_; rintro e9 w9 ⟨rfl, hw⟩; subst w9) | (go_at_call 48; (with_reducible show Calls Try.prog 48 #[.int .i64 y] _ _); refine (HS2.out _).mono ?_; rintro e9 w9 ⟨rfl, hw⟩; subst w9) | (go_at_call 44; refine (HSZ.out _).mono ?_; rintro e9 w9 ⟨rfl, hw⟩; subst w9))
    have TT := C4.new V0 43 (.int .i64 s) (.int .i64 y) (.int .i64 l) (.slice none 0 0)
    have D3 := D0.next (alloc_b (o := (.cells #[.int .i64 s, .int .i64 y, .int .i64 l, .slice none 0 0] 43)))
    have BX3 := BX0.alloc BX0.size (.cells #[.int .i64 s, .int .i64 y, .int .i64 l, .slice none 0 0] 43)
    have hpb : w.heap.size < V0.heap.size := D0.hi
    have hsz : (V0.alloc (.cells #[.int .i64 s, .int .i64 y, .int .i64 l, .slice none 0 0] 43)).heap.size = V0.heap.size + 1 := by simp
    obtain ⟨tb, hpe⟩ : ∃ z, V0.heap.size = z := ⟨_, rfl⟩
    rw [hpe] at TT hsz hpb ⊢
    generalize V0.alloc (.cells #[.int .i64 s, .int .i64 y, .int .i64 l, .slice none 0 0] 43) = V1 at TT D3 BX3 hsz ⊢
    clear hpe D0 BX0 x0 x1 x2 x3 xf HS1 HS2 HSZ
    have Y0 : Y8 (tb + 1) V1 (.slice none 0 0) (catB g0 0) := Y8.nil _ _ (by omega)
    go_loopw [11, 55] (fun dv kv wr => ∃ (k : Nat) (v : Value), k ≤ n ∧ kv = .int .i64 (k : Int) ∧ v = dv ∧ (∀ i, i < k → kgB (Cs.getD i dC) = true) ∧ Hid (Y8 (tb + 1) wr v (catB g0 k) ∧ Below (tb + 1) V1 wr)) (fun _ kv _ => n - (intOf kv).toNat)
    case atStart => exact ⟨0, _, Nat.zero_le _, rfl, rfl, (fun i hi => absurd hi (Nat.not_lt_zero _)), ⟨Y0, Below.refl _ _⟩⟩
    case round =>
      clear Y0
      obtain ⟨k, v, hk, rfl, rfl, HALL, HR⟩ := hrel
      by_cases hkn : k < n
      · have i1 : (k : Int) < (n : Int) := by omega
        have i0 : (0 : Int) ≤ (k : Int) := by omega
        obtain ⟨YW, BR⟩ := HR.out
        have BW : Below w.heap.size w wr := BX3.trans (BR.mono (by omega))
        obtain ⟨g, o, rfl, q0, q1, q2, q3⟩ := HXC.out wr BW k hkn
        have HCS : Hid (catB g0 (k + 1) = catB g0 k ++ g0 k) := rfl
        have HGE := Hid.mk (HGK.out k)
        have HLM := Hid.mk (HLN.out k (by omega))
        have HLP := Hid.mk (HLK.out k)
        have TQ := C4.new wr 25 (.int .i64 (Cs.getD k dC).r) (.int .i64 (Cs.getD k dC).g) (.int .i64 (Cs.getD k dC).b) (.int .i64 (Cs.getD k dC).a)
        have YQ := YW.alloc (.cells #[.int .i64 (Cs.getD k dC).r, .int .i64 (Cs.getD k dC).g, .int .i64 (Cs.getD k dC).b, .int .i64 (Cs.getD k dC).a] 25)
        have BQ : Below (tb + 1) V1 (wr.alloc (.cells #[.int .i64 (Cs.getD k dC).r, .int .i64 (Cs.getD k dC).g, .int .i64 (Cs.getD k dC).b, .int .i64 (Cs.getD k dC).a] 25)) := BR.trans (alloc_b.mono YW.2)
        cases HKG : kgB (Cs.getD k dC)
        · have HG : Hid (∀ w, Calls Try.prog 11 #[.agg #[.int .i64 (Cs.getD k dC).r, .int .i64 (Cs.getD k dC).g, .int .i64 (Cs.getD k dC).b, .int .i64 (Cs.getD k dC).a]] w fun e w' => e = .returned (.bool false) ∧ Below w.heap.size w w') := fun w => by rw [← HKG]; exact good11 _ _ _ _ w
          have D4 := (D3.low BR (by omega)).next (alloc_b (o := (.cells #[.int .i64 (Cs.getD k dC).r, .int .i64 (Cs.getD k dC).g, .int .i64 (Cs.getD k dC).b, .int .i64 (Cs.getD k dC).a] 25)))
          have BW4 := BW.trans (alloc_b (o := (.cells #[.int .i64 (Cs.getD k dC).r, .int .i64 (Cs.getD k dC).g, .int .i64 (Cs.getD k dC).b, .int .i64 (Cs.getD k dC).a] 25)).mono BW.size)
          clear HKG BR HR YW BQ YQ HLM HLP HGE HCS
          generalize hqq : Cs.getD k dC = q at q0 q1 q2 q3 HG TQ D4 BW4
          go_wp2_with (go_at_call 11; refine (HG.out _).mono ?_; rintro e9 w2 ⟨rfl, B2⟩; (have D5 := D4.next B2); (have BX5 := BW4.trans (B2.mono BW4.size)); (have x0 := D5.c0); (have x1 := D5.c1); (have x2 := D5.c2); (have x3 := D5.c3); (have xf := D5.f))
          clear x0 x1 x2 x3 xf
          have D6 := D5.put (.int .i64 0) (.int .i64 0) (.int .i64 0) (.slice none 0 0)
          have B06 : Below w.heap.size w (set4 w2 w.heap.size (.int .i64 0) (.int .i64 0) (.int .i64 0) (.slice none 0 0)) := BX5.trans ((only_set4 w2 w.heap.size (.int .i64 0) (.int .i64 0) (.int .i64 0) (.slice none 0 0)).below (Nat.le_refl _) BX5.size)
          unfold set4 at D6 B06
          have r0 := D6.c0
          have r1 := D6.c1
          have r2 := D6.c2
          have r3 := D6.c3
          exact bodyPost_ret (v := .tuple #[.agg #[.int .i64 0, .int .i64 0, .int .i64 0, .slice none 0 0], .bool false]) (by simp [results, Try.results29, go_sem, r0, r1, r2, r3]) rfl ⟨_, [], rfl, MpA.none _ hB (by have := B06.size; omega), B06⟩
        have HG : Hid (∀ w, Calls Try.prog 11 #[.agg #[.int .i64 (Cs.getD k dC).r, .int .i64 (Cs.getD k dC).g, .int .i64 (Cs.getD k dC).b, .int .i64 (Cs.getD k dC).a]] w fun e w' => e = .returned (.bool true) ∧ Below w.heap.size w w') := fun w => by rw [← HKG]; exact good11 _ _ _ _ w
        have HPK : Hid (∀ w, Calls Try.prog 14 #[.int .i64 l, .agg #[.int .i64 (Cs.getD k dC).r, .int .i64 (Cs.getD k dC).g, .int .i64 (Cs.getD k dC).b, .int .i64 (Cs.getD k dC).a]] w (Pkd w (pkK l (Cs.getD k dC)))) := fun w => by
          have h := pack14 l (Cs.getD k dC).r (Cs.getD k dC).g (Cs.getD k dC).b (Cs.getD k dC).a w
          have e : pkC l (Cs.getD k dC).r (Cs.getD k dC).g (Cs.getD k dC).b (Cs.getD k dC).a = pkK l (Cs.getD k dC) := by unfold pkC; rw [show gdC (Cs.getD k dC).r (Cs.getD k dC).g (Cs.getD k dC).b (Cs.getD k dC).a = true from HKG]; rfl
          rwa [e] at h
        have HQG : Hid (kgB (Cs.getD k dC) = true) := HKG
        clear HKG BW BR HR YW
        generalize hqq : Cs.getD k dC = q at q0 q1 q2 q3 HGE HG HPK HLP TQ YQ BQ
        clear hqq
        generalize pkK l q = LP at HGE HPK HLP
        go_wp2_with (first
          | (go_at_call 11; refine (HG.out _).mono ?_; rintro e9 w2 ⟨rfl, B2⟩; (have TQ2 := TQ.next B2); (have YQ2 := YQ.next B2); (have BQ2 := BQ.trans (B2.mono YQ.2)); (have t0 := TQ2.c0); (have t1 := TQ2.c1); (have t2 := TQ2.c2); (have t3 := TQ2.c3); (have tf := TQ2.f))
          | (go_at_call 14; refine (HPK.out _).mono ?_; rintro e9 w3 ⟨u, rfl, BO, B3⟩; (have YQ3 := YQ2.next B3); (have BQ3 := BQ2.trans (B3.mono YQ2.2)))
          | (at_builtin; refine wpList_append_y8 (.tmp 63) (.tmp 66) rfl rfl rfl rfl YQ3 BO (by have := HLM.out; have := HLP.out; omega) (by have := HLP.out; omega) ?_; intro ga nl cap w5 YN hgr))
        go_roundw
        case rel =>
          have B5 : Below (tb + 1) w3 w5 := below_grown (Below.refl _ _) YQ3.2 hgr (fun z hz => (YQ3.lt z hz).1)
          exact ⟨k + 1, _, by omega, by go_num, rfl, (fun i hi => by rcases Nat.lt_succ_iff_lt_or_eq.1 hi with h | h; exact HALL i h; rw [h]; exact HQG.out), ⟨by rw [HCS.out, HGE.out]; exact YN, BQ3.trans B5⟩⟩
        case measure => simp [intOf]; omega
      · obtain rfl : n = k := by omega
        exact absurd HALL HNO.out
  have hB : wmB s y l Cs = true := by unfold wmB; rw [h1, h2, h3, hP, h4, decide_eq_true h5]; rfl
  have HOK : Hid (∀ i, i < Cs.length → kgB (Cs.getD i dC) = true) := fun i hi => by
    rw [List.all_eq_true] at h4
    exact h4 (Cs.getD i dC) (by simp [List.getD, hi])
  obtain ⟨lo1, lo2⟩ := lv0_ok hf h4
  have lo3 : ((lv0 l Cs).length : Int) = s * y * (szF l : Int) := by rw [lo1, Int.natCast_mul, hP, h5]
  have HMP : Hid (∀ k, k < 5 → ((mpF l s y (lv0 l Cs) k).length : Int) = sdI s k * sdI y k * (szF l : Int) ∧ ∀ x, x ∈ mpF l s y (lv0 l Cs) k → 0 ≤ x ∧ x ≤ 255) := mp_ok hf hs hy lo3 lo2
  have HSI : Hid (∀ w, Calls Try.prog 49 #[.int .i64 s, .int .i64 y] w fun e w' => ∃ v, e = .returned v ∧ SdF w.heap.size w'.heap.size w' v (lcN s y) s y ∧ Below w.heap.size w w') := fun w => sides49f s y w hs hy
  have nl5 := lcN_le s y
  have nl0 := lcN_pos s y
  obtain ⟨MF, hMF⟩ : ∃ MF, mpF l s y (lv0 l Cs) = MF := ⟨_, rfl⟩
  have hM0 : MF 0 = catB (fun i => pkK l (Cs.getD i dC)) Cs.length := by rw [← hMF]; rfl
  have HMN : Hid (∀ j, MF (j + 1) = nxL l (sdI s j) (sdI y j) (MF j) (sdI s (j + 1)).toNat (sdI y (j + 1)).toNat) := fun j => by rw [← hMF]; rfl
  have HMA : Hid (∀ (w' : World) lv us, T8 w.heap.size w' lv us → us.length = lcN s y → Lv w.heap.size w' us MF → MpA w.heap.size w' (.agg #[.int .i64 s, .int .i64 y, .int .i64 l, lv]) s y l Cs us) := fun w' lv us t1 t2 t3 => ⟨lv, by rw [hB]; rfl, t1, by rw [hB]; exact t2, by rw [hMF]; exact t3⟩
  rw [hB]
  rw [hMF] at HMP
  have HM0 := Hid.mk hM0
  have HSG : Hid (gS s ∧ gS y ∧ (l = 1 ∨ l = 2 ∨ l = 3)) := ⟨hs, hy, hf⟩
  generalize lcN s y = NL at HSI nl5 nl0 HMA
  generalize (fun i => pkK l (Cs.getD i dC)) = g0 at HLN HGK HM0
  have HP3 := Hid.mk h5
  have hnb : Cs.length ≤ 256 := by omega
  clear h1 h2 h3 h4 hs hy h5 hf lo1 lo2 lo3 hMF hM0 hB
  generalize Cs.length = n at *
  go_enter Try.func29, Try.ntmps29
  go_upto_region 1 with fail
  rw [HV0.out]
  clear HV0
  go_upto_region 6 with (first | (go_at_call 48; (with_reducible show Calls Try.prog 48 #[.int .i64 s] _ _); refine (HS1.out _).mono ?_; rintro e9 w9 ⟨rfl, hw⟩; subst w9) | (go_at_call 48; (with_reducible show Calls Try.prog 48 #[.int .i64 y] _ _); refine (HS2.out _).mono ?_; rintro e9 w9 ⟨rfl, hw⟩; subst w9) | (go_at_call 44; refine (HSZ.out _).mono ?_; rintro e9 w9 ⟨rfl, hw⟩; subst w9))
  have TT := C4.new V0 43 (.int .i64 s) (.int .i64 y) (.int .i64 l) (.slice none 0 0)
  have D3 := D0.next (alloc_b (o := (.cells #[.int .i64 s, .int .i64 y, .int .i64 l, .slice none 0 0] 43)))
  have BX3 := BX0.alloc BX0.size (.cells #[.int .i64 s, .int .i64 y, .int .i64 l, .slice none 0 0] 43)
  have hpb : w.heap.size < V0.heap.size := D0.hi
  have hsz : (V0.alloc (.cells #[.int .i64 s, .int .i64 y, .int .i64 l, .slice none 0 0] 43)).heap.size = V0.heap.size + 1 := by simp
  obtain ⟨tb, hpe⟩ : ∃ z, V0.heap.size = z := ⟨_, rfl⟩
  rw [hpe] at TT hsz hpb ⊢
  generalize V0.alloc (.cells #[.int .i64 s, .int .i64 y, .int .i64 l, .slice none 0 0] 43) = V1 at TT D3 BX3 hsz ⊢
  clear hpe D0 BX0 x0 x1 x2 x3 xf HS1 HS2 HSZ
  have Y0 : Y8 (tb + 1) V1 (.slice none 0 0) (catB g0 0) := Y8.nil _ _ (by omega)
  go_loopw [11, 55] (fun dv kv wr => ∃ (k : Nat) (v : Value), k ≤ n ∧ kv = .int .i64 (k : Int) ∧ v = dv ∧  Hid (Y8 (tb + 1) wr v (catB g0 k) ∧ Below (tb + 1) V1 wr)) (fun _ kv _ => n - (intOf kv).toNat)
  case atStart => exact ⟨0, _, Nat.zero_le _, rfl, rfl,  ⟨Y0, Below.refl _ _⟩⟩
  case round =>
    clear Y0
    obtain ⟨k, v, hk, rfl, rfl,  HR⟩ := hrel
    by_cases hkn : k < n
    · have i1 : (k : Int) < (n : Int) := by omega
      have i0 : (0 : Int) ≤ (k : Int) := by omega
      obtain ⟨YW, BR⟩ := HR.out
      have BW : Below w.heap.size w wr := BX3.trans (BR.mono (by omega))
      obtain ⟨g, o, rfl, q0, q1, q2, q3⟩ := HXC.out wr BW k hkn
      have HCS : Hid (catB g0 (k + 1) = catB g0 k ++ g0 k) := rfl
      have HGE := Hid.mk (HGK.out k)
      have HLM := Hid.mk (HLN.out k (by omega))
      have HLP := Hid.mk (HLK.out k)
      have TQ := C4.new wr 25 (.int .i64 (Cs.getD k dC).r) (.int .i64 (Cs.getD k dC).g) (.int .i64 (Cs.getD k dC).b) (.int .i64 (Cs.getD k dC).a)
      have YQ := YW.alloc (.cells #[.int .i64 (Cs.getD k dC).r, .int .i64 (Cs.getD k dC).g, .int .i64 (Cs.getD k dC).b, .int .i64 (Cs.getD k dC).a] 25)
      have BQ : Below (tb + 1) V1 (wr.alloc (.cells #[.int .i64 (Cs.getD k dC).r, .int .i64 (Cs.getD k dC).g, .int .i64 (Cs.getD k dC).b, .int .i64 (Cs.getD k dC).a] 25)) := BR.trans (alloc_b.mono YW.2)
      have HKG := HOK.out k hkn
      have HG : Hid (∀ w, Calls Try.prog 11 #[.agg #[.int .i64 (Cs.getD k dC).r, .int .i64 (Cs.getD k dC).g, .int .i64 (Cs.getD k dC).b, .int .i64 (Cs.getD k dC).a]] w fun e w' => e = .returned (.bool true) ∧ Below w.heap.size w w') := fun w => by rw [← HKG]; exact good11 _ _ _ _ w
      have HPK : Hid (∀ w, Calls Try.prog 14 #[.int .i64 l, .agg #[.int .i64 (Cs.getD k dC).r, .int .i64 (Cs.getD k dC).g, .int .i64 (Cs.getD k dC).b, .int .i64 (Cs.getD k dC).a]] w (Pkd w (pkK l (Cs.getD k dC)))) := fun w => by
        have h := pack14 l (Cs.getD k dC).r (Cs.getD k dC).g (Cs.getD k dC).b (Cs.getD k dC).a w
        have e : pkC l (Cs.getD k dC).r (Cs.getD k dC).g (Cs.getD k dC).b (Cs.getD k dC).a = pkK l (Cs.getD k dC) := by unfold pkC; rw [show gdC (Cs.getD k dC).r (Cs.getD k dC).g (Cs.getD k dC).b (Cs.getD k dC).a = true from HKG]; rfl
        rwa [e] at h
      have HGKK := Hid.mk HKG
      clear HKG BW BR HR YW
      generalize Cs.getD k dC = q at q0 q1 q2 q3 HGE HG HPK HLP TQ YQ BQ HGKK
      generalize pkK l q = LP at HGE HPK HLP
      go_wp2_with (first
        | (go_at_call 11; refine (HG.out _).mono ?_; rintro e9 w2 ⟨rfl, B2⟩; (have TQ2 := TQ.next B2); (have YQ2 := YQ.next B2); (have BQ2 := BQ.trans (B2.mono YQ.2)); (have t0 := TQ2.c0); (have t1 := TQ2.c1); (have t2 := TQ2.c2); (have t3 := TQ2.c3); (have tf := TQ2.f))
        | (go_at_call 14; refine (HPK.out _).mono ?_; rintro e9 w3 ⟨u, rfl, BO, B3⟩; (have YQ3 := YQ2.next B3); (have BQ3 := BQ2.trans (B3.mono YQ2.2)))
        | (at_builtin; refine wpList_append_y8 (.tmp 63) (.tmp 66) rfl rfl rfl rfl YQ3 BO (by have := HLM.out; have := HLP.out; omega) (by have := HLP.out; omega) ?_; intro ga nl cap w5 YN hgr))
      go_roundw
      case rel =>
        have B5 : Below (tb + 1) w3 w5 := below_grown (Below.refl _ _) YQ3.2 hgr (fun z hz => (YQ3.lt z hz).1)
        exact ⟨k + 1, _, by omega, by go_num, rfl,  ⟨by rw [HCS.out, HGE.out]; exact YN, BQ3.trans B5⟩⟩
      case measure => simp [intOf]; omega
    · obtain rfl : n = k := by omega
      have i1 : ¬ (n : Int) < (n : Int) := by omega
      clear HLN HGK HLK HXC HOK
      obtain ⟨YW, BR⟩ := HR.out
      rw [← HM0.out] at YW
      obtain ⟨ya, yc, rfl⟩ := YW.is
      obtain ⟨yn, hyn⟩ : ∃ z, (MF 0).length = z := ⟨_, rfl⟩
      rw [hyn] at YW ⊢
      clear hyn HR HM0
      have TW := TT.low BR (by omega)
      have DW := D3.low BR (by omega)
      have BW : Below w.heap.size w wr := BX3.trans (BR.mono (by omega))
      clear BR TT D3 BX3
      have t0 := TW.c0
      have t1 := TW.c1
      have t2 := TW.c2
      have t3 := TW.c3
      have htw := TW.hi
      go_upto_region 15 with (first
        | (at_builtin; refine wpList_append_t8n (B := tb + 1) (u := .slice ya yn yc) (.tmp 70) (.tmp 72) rfl rfl rfl rfl (by simp; omega) (by simp) rfl ?_; intro ga cap w8 HT B8; (obtain ⟨TT8, HL1⟩ := Lq.first (NL := NL) TW YW B8 HT); (have t0 := TT8.c0); (have t1 := TT8.c1); (have t2 := TT8.c2); (have t3 := TT8.c3); (have tf := TT8.f))
        | (go_at_call 49; refine (HSI.out _).mono ?_; rintro e9 V2 ⟨sv, rfl, S10, B10⟩; (obtain ⟨L0, BL⟩ := HL1 _ V2 sv rfl B10 S10)))
      have D4 := DW.low BL (by omega)
      have BX4 : Below w.heap.size w V2 := BW.trans (BL.mono (by omega))
      obtain ⟨B9, C9, L0⟩ : ∃ B9 C9, Lq tb B9 C9 s y l NL sv MF V2 0 [.slice ya yn yc] (.slice (some ⟨ga, 0, none⟩) 1 cap) V2 := ⟨_, _, L0⟩
      have HM1 := Hid.mk L0
      clear L0 HL1 S10 B10 TT8 t0 t1 t2 t3 tf HT B8 TW DW BW BL YW
      go_loopw [15] (fun iv wx => ∃ (ii j : Nat) (us : List Value) (lv : Value), ii = j + 1 ∧ ii ≤ NL ∧ iv = .int .i64 (ii : Int) ∧ Hid (Lq tb B9 C9 s y l NL sv MF V2 j us lv wx)) (fun iv _ => NL - (intOf iv).toNat)
      case atStart => exact ⟨1, 0, _, _, rfl, by omega, rfl, HM1⟩
      case round =>
        clear HM1
        obtain ⟨ii, j, us, lv, hij, hj, rfl, HM⟩ := hrel
        obtain ⟨lg, lc, rfl⟩ : ∃ lg lc, lv = .slice (some ⟨lg, 0, none⟩) (j + 1) lc := by
          have h2 := HM.out.o.1
          rw [HM.out.h] at h2
          rcases h2.2 with ⟨_, h0⟩ | ⟨g, cap, cur, h0, _⟩
          · omega
          · exact ⟨g, cap, h0⟩
        obtain ⟨sg, sc, p, rfl, hsg, hS⟩ := id HM.out.S
        by_cases hjn : ii < NL
        · have i1 : (ii : Int) < (NL : Int) := by omega
          have j0 : (0 : Int) ≤ (j : Int) := by omega
          have j1 : (j : Int) < (NL : Int) := by omega
          have j2 : (ii : Int) - 1 = (j : Int) := by omega
          obtain ⟨_, s1, s2, s3⟩ := hS j (by omega)
          obtain ⟨_, r1, r2, r3⟩ := hS ii (by omega)
          have HIJ := Hid.mk hij
          have hgs := gS_sd HSG.out.1 j (by omega)
          have hgy := gS_sd HSG.out.2.1 j (by omega)
          obtain ⟨a0, a1⟩ := gS_bnd hgs
          obtain ⟨b0, b1⟩ := gS_bnd hgy
          have HAT : Hid (∀ X Y i d : Nat, X < (sdI s ii).toNat → Y < (sdI y ii).toNat → i < mn2 (sdI s j) → d < mn2 (sdI y j) → ∀ w', Below wr.heap.size wr w' → Calls Try.prog 55 #[.agg #[.int .i64 s, .int .i64 y, .int .i64 l, .slice (some ⟨lg, 0, none⟩) (j + 1) lc], .int .i64 (j : Int), .int .i64 (sdI s j), .int .i64 (2 * (X : Int) + (i : Int)), .int .i64 (2 * (Y : Int) + (d : Int))] w' fun e w'' => e = .returned (colV (jnC l (sdI s j) (MF j) (2 * (X : Int)) (2 * (Y : Int)) (d * mn2 (sdI s j) + i))) ∧ Below w'.heap.size w' w'') := fun X Y i d hX hY hi hd w' b => by
            rw [HIJ.out] at hX hY
            exact mat_jn HM.out HSG.out.2.2 HSG.out.1 HSG.out.2.1 HMP.out (by omega) X Y i d hX hY hi hd w' b
          have hf := HSG.out.2.2
          have bfL := byte_getD (HMP.out j (by omega)).2
          have HJO : Hid (∀ X Y i : Nat, (jnC l (sdI s j) (MF j) (2 * (X : Int)) (2 * (Y : Int)) i).ok) := fun X Y i => px_ok l _ _ hf bfL
          have HGM : Hid (∀ X Y : Nat, X < (sdI s ii).toNat → nxG l (sdI s j) (sdI y j) (MF j) (sdI s ii).toNat (Y * (sdI s ii).toNat + X) = pkK l (blC (mn2 (sdI y j) * mn2 (sdI s j)) (jnC l (sdI s j) (MF j) (2 * (X : Int)) (2 * (Y : Int))) one)) := fun x y hx => by
            unfold nxG
            rw [Nat.mul_comm, Nat.mul_add_mod, Nat.mod_eq_of_lt hx, Nat.mul_add_div (by omega), Nat.div_eq_of_lt hx, Nat.add_zero]
            rfl
          have HLN2 : Hid (∀ m : Nat, m ≤ 64 → (catB (nxG l (sdI s j) (sdI y j) (MF j) (sdI s ii).toNat) m).length ≤ 90000) := fun m hm => by
            rw [cat_len (g := nxG l (sdI s j) (sdI y j) (MF j) (sdI s ii).toNat) (z := szF l) m (fun i _ => pk_len hf _)]
            have h4 := HSF.out.2
            have h5 : m * szF l ≤ 64 * 4 := Nat.mul_le_mul hm h4
            omega
          have HMS : Hid (MF (j + 1) = catB (nxG l (sdI s j) (sdI y j) (MF j) (sdI s ii).toNat) ((sdI y ii).toNat * (sdI s ii).toNat)) := by show _ = _; rw [HMN.out, HIJ.out]; rfl
          have HIX : Hid (∀ X : Nat, X < (sdI s ii).toNat → 2 * (X : Int) + (mn2 (sdI s j) : Nat) ≤ sdI s j) := fun X hX => half_in hgs (by rw [sd_sd HSG.out.1 j (by omega), ← HIJ.out]; exact hX)
          have HIY : Hid (∀ X : Nat, X < (sdI y ii).toNat → 2 * (X : Int) + (mn2 (sdI y j) : Nat) ≤ sdI y j) := fun X hX => half_in hgy (by rw [sd_sd HSG.out.2.1 j (by omega), ← HIJ.out]; exact hX)
          have HEX : Hid (∀ X : Nat, X < (sdI s ii).toNat → mn2 (sdI s j) = 2 ∨ mn2 (sdI s j) = 1 ∧ sdI s j ≤ 2 * (X : Int) + 1) := fun X hX => mn2_end hgs (by rw [sd_sd HSG.out.1 j (by omega), ← HIJ.out]; exact hX)
          have HEY : Hid (∀ X : Nat, X < (sdI y ii).toNat → mn2 (sdI y j) = 2 ∨ mn2 (sdI y j) = 1 ∧ sdI y j ≤ 2 * (X : Int) + 1) := fun X hX => mn2_end hgy (by rw [sd_sd HSG.out.2.1 j (by omega), ← HIJ.out]; exact hX)
          obtain ⟨na0, na1⟩ := mn2_pos a0
          obtain ⟨nh0, nh1⟩ := mn2_pos b0
          have hab : (sdI s ii).toNat ≤ 8 := by rw [hij, ← sd_sd HSG.out.1 j (by omega)]; exact (sd1_bnd hgs).2
          have hhb : (sdI y ii).toNat ≤ 8 := by rw [hij, ← sd_sd HSG.out.2.1 j (by omega)]; exact (sd1_bnd hgy).2
          have ea : sdI s ii = (((sdI s ii).toNat : Nat) : Int) := by have := sdI_pos s ii; omega
          have eh : sdI y ii = (((sdI y ii).toNat : Nat) : Int) := by have := sdI_pos y ii; omega
          rw [ea] at r2
          rw [eh] at r3
          clear ea eh hgs hgy hf bfL hS hsg hij
          generalize nxG l (sdI s j) (sdI y j) (MF j) (sdI s ii).toNat = gm at *
          generalize (sdI s ii).toNat = a at *
          generalize (sdI y ii).toNat = h at *
          generalize mn2 (sdI s j) = nA at *
          generalize mn2 (sdI y j) = nH at *
          generalize hL : MF j = L at HAT HJO HGM
          clear hL
          generalize sdI s j = A at *
          generalize sdI y j = H at *
          generalize p j = pj at *
          generalize p ii = pi at *
          generalize wr = W1 at *
          have Y0 : Y8 W1.heap.size W1 (.slice none 0 0) (catB gm (0 * a)) := by rw [Nat.zero_mul]; exact Y8.nil _ _ (Nat.le_refl _)
          go_upto_region 21 with fail
          clear s1 s2 s3
          go_loopw [16, 19] (fun nv yv wy => ∃ (Y : Nat) (v : Value), Y ≤ h ∧ yv = .int .i64 (Y : Int) ∧ v = nv ∧ Hid (Y8 W1.heap.size wy v (catB gm (Y * a)) ∧ Below W1.heap.size W1 wy)) (fun _ yv _ => h - (intOf yv).toNat)
          case atStart => exact ⟨0, _, Nat.zero_le _, rfl, rfl, ⟨Y0, Below.refl _ _⟩⟩
          case round =>
            clear Y0
            obtain ⟨Y, v, hY, rfl, rfl, HR⟩ := hrel
            obtain ⟨YW, BR⟩ := HR.out
            have y1 := cell_nx r1 BR
            have y2 := cell_nx r2 BR
            have y3 := cell_nx r3 BR
            by_cases hYn : Y < h
            · have i2 : (Y : Int) < (h : Int) := by omega
              have HJ : Hid (Y8 W1.heap.size wr v (catB gm (Y * a + 0)) ∧ Below W1.heap.size W1 wr) := ⟨YW, BR⟩
              clear HR YW BR
              go_upto_region 24 with fail
              clear y1 y2 y3
              go_loopw [16, 20] (fun nv xv wx => ∃ (X : Nat) (v : Value), X ≤ a ∧ xv = .int .i64 (X : Int) ∧ v = nv ∧ Hid (Y8 W1.heap.size wx v (catB gm (Y * a + X)) ∧ Below W1.heap.size W1 wx)) (fun _ xv _ => a - (intOf xv).toNat)
              case atStart => exact ⟨0, _, Nat.zero_le _, rfl, rfl, HJ⟩
              case round =>
                clear HJ
                obtain ⟨X, v, hX, rfl, rfl, HR⟩ := hrel
                obtain ⟨YX, BX⟩ := HR.out
                have y1 := cell_nx r1 BX
                have y2 := cell_nx r2 BX
                have y3 := cell_nx r3 BX
                by_cases hXn : X < a
                · have i3 : (X : Int) < (a : Int) := by omega
                  obtain ⟨C, hC⟩ : ∃ C, jnC l A L (2 * (X : Int)) (2 * (Y : Int)) = C := ⟨_, rfl⟩
                  have HATC : Hid (∀ i d : Nat, i < nA → d < nH → ∀ w', Below W1.heap.size W1 w' → Calls Try.prog 55 #[.agg #[.int .i64 s, .int .i64 y, .int .i64 l, .slice (some ⟨lg, 0, none⟩) (j + 1) lc], .int .i64 (j : Int), .int .i64 A, .int .i64 (2 * (X : Int) + (i : Int)), .int .i64 (2 * (Y : Int) + (d : Int))] w' fun e w'' => e = .returned (.agg #[.int .i64 (C (d * nA + i)).r, .int .i64 (C (d * nA + i)).g, .int .i64 (C (d * nA + i)).b, .int .i64 (C (d * nA + i)).a]) ∧ Below w'.heap.size w' w'') := fun i d hi hd w' b => by rw [← hC]; exact HAT.out X Y i d hXn hYn hi hd w' b
                  have HOKC : Hid (∀ i, (C i).ok) := fun i => by rw [← hC]; exact HJO.out X Y i
                  obtain ⟨Q, hQ⟩ : ∃ Q, blC (nH * nA) C one = Q := ⟨_, rfl⟩
                  have HGE : Hid (gm (Y * a + X) = pkK l Q) := by show _ = _; rw [← hQ, ← hC]; exact HGM.out X Y hXn
                  have hN1 : 1 * 1 ≤ nH * nA := Nat.mul_le_mul nh0 na0
                  have hN4 : nH * nA ≤ 2 * 2 := Nat.mul_le_mul nh1 na1
                  have HQK : Hid Q.ok := by show Q.ok; rw [← hQ]; exact bl_ok _ _ _ (fun i _ => HOKC.out i) (fun i _ => by unfold one; omega) (by rw [al_one]; omega)
                  have HPK : Hid (∀ w, Calls Try.prog 14 #[.int .i64 l, .agg #[.int .i64 Q.r, .int .i64 Q.g, .int .i64 Q.b, .int .i64 Q.a]] w (Pkd w (pkK l Q))) := fun w => by
                    have h := pack14 l Q.r Q.g Q.b Q.a w
                    have e : pkC l Q.r Q.g Q.b Q.a = pkK l Q := by unfold pkC; rw [gdC_iff.2 HQK.out]; rfl
                    rwa [e] at h
                  have HLP : Hid (1 ≤ (pkK l Q).length ∧ (pkK l Q).length ≤ 4) := by
                    show _ ∧ _
                    rw [pk_len HSG.out.2.2]
                    have := HSF.out
                    omega
                  have HSB0 : Hid (∀ k, k ≤ nH * nA → 0 ≤ sm (fun i => (C i).r) one k ∧ sm (fun i => (C i).r) one k ≤ 16711680 * k) := sm_bnd _ one (nH * nA) (fun i _ => (HOKC.out i).1) (fun i _ => by unfold one; omega)
                  have HSB1 : Hid (∀ k, k ≤ nH * nA → 0 ≤ sm (fun i => (C i).g) one k ∧ sm (fun i => (C i).g) one k ≤ 16711680 * k) := sm_bnd _ one (nH * nA) (fun i _ => (HOKC.out i).2.1) (fun i _ => by unfold one; omega)
                  have HSB2 : Hid (∀ k, k ≤ nH * nA → 0 ≤ sm (fun i => (C i).b) one k ∧ sm (fun i => (C i).b) one k ≤ 16711680 * k) := sm_bnd _ one (nH * nA) (fun i _ => (HOKC.out i).2.2.1) (fun i _ => by unfold one; omega)
                  have HSB3 : Hid (∀ k, k ≤ nH * nA → 0 ≤ sm (fun i => (C i).a) one k ∧ sm (fun i => (C i).a) one k ≤ 16711680 * k) := sm_bnd _ one (nH * nA) (fun i _ => (HOKC.out i).2.2.2) (fun i _ => by unfold one; omega)
                  obtain ⟨N, hN⟩ : ∃ N, nH * nA = N := ⟨_, rfl⟩
                  rw [hN] at hQ hN1 hN4 HSB0 HSB1 HSB2 HSB3
                  have HCS : Hid (catB gm (Y * a + X + 1) = catB gm (Y * a + X) ++ gm (Y * a + X)) := rfl
                  have hya : Y * a + X ≤ 64 := by
                    have h1 : (Y + 1) * a ≤ 8 * 8 := Nat.mul_le_mul (by omega) hab
                    have h2 : (Y + 1) * a = Y * a + a := Nat.succ_mul Y a
                    omega
                  have HLM := Hid.mk (HLN2.out (Y * a + X) hya)
                  have HYN := Hid.mk hN
                  have HQQ := Hid.mk hQ
                  have hix : 2 * (X : Int) + (nA : Nat) ≤ A := HIX.out X hXn
                  have hiy : 2 * (Y : Int) + (nH : Nat) ≤ H := HIY.out Y hYn
                  have hex := HEX.out X hXn
                  have hey := HEY.out Y hYn
                  generalize pkK l Q = LP at HGE HPK HLP
                  clear hC hQ hN hya
                  go_upto_region 29 with fail
                  clear y1 y2 y3
                  have SB := C4.new wr 25 (.int .i64 0) (.int .i64 0) (.int .i64 0) (.int .i64 0)
                  have TXa := (HM.out.t.next BX).next (alloc_b (o := (.cells #[.int .i64 0, .int .i64 0, .int .i64 0, .int .i64 0] 25)))
                  have YXa := YX.alloc (.cells #[.int .i64 0, .int .i64 0, .int .i64 0, .int .i64 0] 25)
                  have BXa : Below W1.heap.size W1 (wr.alloc (.cells #[.int .i64 0, .int .i64 0, .int .i64 0, .int .i64 0] 25)) := BX.alloc BX.size (.cells #[.int .i64 0, .int .i64 0, .int .i64 0, .int .i64 0] 25)
                  have htb : tb < wr.heap.size := Nat.lt_of_lt_of_le HM.out.t.hi BX.size
                  have hvs : ∀ q, v.ownBlock = some q → q < wr.heap.size := fun q hq => (YX.lt q hq).2
                  have hsb : W1.heap.size ≤ wr.heap.size := BX.size
                  obtain ⟨sb, hsbe⟩ : ∃ z, wr.heap.size = z := ⟨_, rfl⟩
                  rw [hsbe] at SB htb hvs hsb ⊢
                  generalize wr.alloc (.cells #[.int .i64 0, .int .i64 0, .int .i64 0, .int .i64 0] 25) = X1 at SB TXa YXa BXa ⊢
                  clear hsbe HR YX BX
                  obtain ⟨va, vc, rfl⟩ := YXa.is
                  obtain ⟨vn, hvn⟩ : ∃ z, (catB gm (Y * a + X)).length = z := ⟨_, rfl⟩
                  rw [hvn] at YXa hvs ⊢
                  clear hvn
                  go_loopw [22, 23] (fun nv dv wd => ∃ d : Nat, d ≤ nH ∧ dv = .int .i64 (d : Int) ∧ nv = .int .i64 ((d * nA : Nat) : Int) ∧ Hid (C4 wd sb (.int .i64 (sm (fun i => (C i).r) one (d * nA))) (.int .i64 (sm (fun i => (C i).g) one (d * nA))) (.int .i64 (sm (fun i => (C i).b) one (d * nA))) (.int .i64 (sm (fun i => (C i).a) one (d * nA))) ∧ Below sb X1 wd)) (fun _ dv _ => nH - (intOf dv).toNat)
                  case atStart => exact ⟨0, Nat.zero_le _, rfl, by rw [Nat.zero_mul]; rfl, ⟨by rw [Nat.zero_mul]; exact SB, Below.refl _ _⟩⟩
                  case round =>
                    clear SB
                    obtain ⟨d, hd, rfl, rfl, HD⟩ := hrel
                    by_cases hdn : d < nH
                    · have k1 : (d : Int) < 2 := by omega
                      have k2 : 2 * (Y : Int) + (d : Int) < H := by omega
                      have k3 : (Y : Int) ≤ 8 := by omega
                      have HD0 : Hid (C4 wr sb (.int .i64 (sm (fun i => (C i).r) one (d * nA + 0))) (.int .i64 (sm (fun i => (C i).g) one (d * nA + 0))) (.int .i64 (sm (fun i => (C i).b) one (d * nA + 0))) (.int .i64 (sm (fun i => (C i).a) one (d * nA + 0))) ∧ Below sb X1 wr) := HD
                      clear HD
                      go_upto_region 32 with fail
                      go_loopw [22, 24] (fun nv dv wd => ∃ i : Nat, i ≤ nA ∧ dv = .int .i64 (i : Int) ∧ nv = .int .i64 ((d * nA + i : Nat) : Int) ∧ Hid (C4 wd sb (.int .i64 (sm (fun i => (C i).r) one (d * nA + i))) (.int .i64 (sm (fun i => (C i).g) one (d * nA + i))) (.int .i64 (sm (fun i => (C i).b) one (d * nA + i))) (.int .i64 (sm (fun i => (C i).a) one (d * nA + i))) ∧ Below sb X1 wd)) (fun _ dv _ => nA - (intOf dv).toNat)
                      case atStart => exact ⟨0, Nat.zero_le _, rfl, rfl, HD0⟩
                      case round =>
                        clear HD0
                        obtain ⟨i, hi, rfl, rfl, HI⟩ := hrel
                        obtain ⟨SI, BI⟩ := HI.out
                        by_cases hin : i < nA
                        · have m1 : (i : Int) < 2 := by omega
                          have m2 : 2 * (X : Int) + (i : Int) < A := by omega
                          have m3 : (X : Int) ≤ 8 := by omega
                          have TI := TXa.low BI htb
                          have HAC := Hid.mk (HATC.out i d hin hdn)
                          have hmn : d * nA + i + 1 ≤ N := by
                            have h1 : (d + 1) * nA ≤ nH * nA := Nat.mul_le_mul_right _ hdn
                            have h2 : (d + 1) * nA = d * nA + nA := Nat.succ_mul d nA
                            rw [HYN.out] at h1
                            omega
                          have BW : Below W1.heap.size W1 wr := BXa.trans (BI.mono hsb)
                          obtain ⟨m, hm⟩ : ∃ m, d * nA + i = m := ⟨_, rfl⟩
                          rw [hm] at SI HAC hmn ⊢
                          have HMI := Hid.mk hm
                          have HQO := Hid.mk (HOKC.out m)
                          have HSS : Hid (sm (fun i => (C i).r) one (m + 1) = sm (fun i => (C i).r) one m + (C m).r ∧ sm (fun i => (C i).g) one (m + 1) = sm (fun i => (C i).g) one m + (C m).g ∧ sm (fun i => (C i).b) one (m + 1) = sm (fun i => (C i).b) one m + (C m).b ∧ sm (fun i => (C i).a) one (m + 1) = sm (fun i => (C i).a) one m + (C m).a) := by
                            refine ⟨?_, ?_, ?_, ?_⟩ <;> (rw [sm, show one m = 1 from rfl, Int.mul_one])
                          obtain ⟨t00, t01⟩ := HSB0.out m (by omega)
                          obtain ⟨t10, t11⟩ := HSB1.out m (by omega)
                          obtain ⟨t20, t21⟩ := HSB2.out m (by omega)
                          obtain ⟨t30, t31⟩ := HSB3.out m (by omega)
                          obtain ⟨⟨o00, o01⟩, ⟨o10, o11⟩, ⟨o20, o21⟩, ⟨o30, o31⟩⟩ := HQO.out
                          obtain ⟨N0, hN0⟩ : ∃ z, sm (fun i => (C i).r) one (m + 1) = z := ⟨_, rfl⟩
                          obtain ⟨N1, hN1'⟩ : ∃ z, sm (fun i => (C i).g) one (m + 1) = z := ⟨_, rfl⟩
                          obtain ⟨N2, hN2⟩ : ∃ z, sm (fun i => (C i).b) one (m + 1) = z := ⟨_, rfl⟩
                          obtain ⟨N3, hN3⟩ : ∃ z, sm (fun i => (C i).a) one (m + 1) = z := ⟨_, rfl⟩
                          rw [hN0, hN1', hN2, hN3] at HSS
                          have HNN := Hid.mk (And.intro hN0 (And.intro hN1' (And.intro hN2 hN3)))
                          clear hN0 hN1' hN2 hN3 hm HI HQO
                          generalize sm (fun i => (C i).r) one m = S0 at SI HSS t00 t01
                          generalize sm (fun i => (C i).g) one m = S1 at SI HSS t10 t11
                          generalize sm (fun i => (C i).b) one m = S2 at SI HSS t20 t21
                          generalize sm (fun i => (C i).a) one m = S3 at SI HSS t30 t31
                          obtain ⟨c0, hc0⟩ : ∃ z, (C m).r = z := ⟨_, rfl⟩
                          obtain ⟨c1, hc1⟩ : ∃ z, (C m).g = z := ⟨_, rfl⟩
                          obtain ⟨c2, hc2⟩ : ∃ z, (C m).b = z := ⟨_, rfl⟩
                          obtain ⟨c3, hc3⟩ : ∃ z, (C m).a = z := ⟨_, rfl⟩
                          rw [hc0, hc1, hc2, hc3] at HAC HSS
                          rw [hc0] at o00 o01
                          rw [hc1] at o10 o11
                          rw [hc2] at o20 o21
                          rw [hc3] at o30 o31
                          clear hc0 hc1 hc2 hc3
                          obtain ⟨E0, E1, E2, E3⟩ := HSS.out
                          have w0 : IntKind.i64.wrap (S0 + c0) = N0 := by rw [E0]; exact (IntKind.wrap_i64 _).trans (by omega)
                          have w1 : IntKind.i64.wrap (S1 + c1) = N1 := by rw [E1]; exact (IntKind.wrap_i64 _).trans (by omega)
                          have w2 : IntKind.i64.wrap (S2 + c2) = N2 := by rw [E2]; exact (IntKind.wrap_i64 _).trans (by omega)
                          have w3 : IntKind.i64.wrap (S3 + c3) = N3 := by rw [E3]; exact (IntKind.wrap_i64 _).trans (by omega)
                          clear E0 E1 E2 E3 HSS t00 t01 t10 t11 t20 t21 t30 t31 o00 o01 o10 o11 o20 o21 o30 o31
                          have t0 := TI.c0
                          have t1 := TI.c1
                          have t2 := TI.c2
                          have t3 := TI.c3
                          go_upto_region 35 with (go_at_call 55; refine (HAC.out _ BW).mono ?_; rintro e9 w2 ⟨rfl, B2⟩; (have SI2 := SI.next B2); (have BI2 := BI.trans (B2.mono (Nat.le_of_lt SI.hi))))
                          clear t0 t1 t2 t3 TI
                          have CB := C4.new w2 25 (.int .i64 c0) (.int .i64 c1) (.int .i64 c2) (.int .i64 c3)
                          have SI3 := SI2.next (alloc_b (o := (.cells #[.int .i64 c0, .int .i64 c1, .int .i64 c2, .int .i64 c3] 25)))
                          have BI3 := BI2.alloc (Nat.le_of_lt SI2.hi) (.cells #[.int .i64 c0, .int .i64 c1, .int .i64 c2, .int .i64 c3] 25)
                          have hcb : sb < w2.heap.size := SI2.hi
                          obtain ⟨cb, hcbe⟩ : ∃ z, w2.heap.size = z := ⟨_, rfl⟩
                          rw [hcbe] at CB hcb ⊢
                          generalize w2.alloc (.cells #[.int .i64 c0, .int .i64 c1, .int .i64 c2, .int .i64 c3] 25) = X3 at CB SI3 BI3 ⊢
                          clear hcbe SI2 BI2 B2
                          have SI4 := SI3.put (.int .i64 N0) (.int .i64 N1) (.int .i64 N2) (.int .i64 N3)
                          have BI4 := BI3.trans ((only_set4 X3 sb (.int .i64 N0) (.int .i64 N1) (.int .i64 N2) (.int .i64 N3)).below (Nat.le_refl _) (Nat.le_of_lt SI3.hi))
                          unfold set4 at SI4 BI4
                          have HSN := Hid.mk (And.intro SI4 BI4)
                          have s0 := SI3.c0
                          have s1 := SI3.c1
                          have s2 := SI3.c2
                          have s3 := SI3.c3
                          have sf := SI3.f
                          have c40 := CB.c0
                          have c41 := CB.c1
                          have c42 := CB.c2
                          have c43 := CB.c3
                          clear SI4 BI4
                          go_wp2
                          go_roundw
                          case rel => exact ⟨i + 1, by omega, by go_num, by rw [← Nat.add_assoc, HMI.out]; go_num, ⟨by rw [← Nat.add_assoc, HMI.out, HNN.out.1, HNN.out.2.1, HNN.out.2.2.1, HNN.out.2.2.2]; exact HSN.out.1, HSN.out.2⟩⟩
                          case measure => simp [intOf]; omega
                        · obtain rfl : nA = i := by omega
                          have hex2 := hex
                          have HF : Hid (C4 wr sb (.int .i64 (sm (fun i => (C i).r) one ((d + 1) * nA))) (.int .i64 (sm (fun i => (C i).g) one ((d + 1) * nA))) (.int .i64 (sm (fun i => (C i).b) one ((d + 1) * nA))) (.int .i64 (sm (fun i => (C i).a) one ((d + 1) * nA))) ∧ Below sb X1 wr) := by rw [Nat.succ_mul]; exact HI
                          have HEN : Hid (d * nA + nA = (d + 1) * nA) := (Nat.succ_mul d nA).symm
                          clear HI SI BI
                          obtain ⟨NM, hNM⟩ : ∃ z, d * nA + nA = z := ⟨_, rfl⟩
                          rw [hNM] at HEN ⊢
                          clear hNM
                          rcases hex2 with hA2 | ⟨hA1, hA1'⟩
                          · have m1 : ¬ (nA : Int) < 2 := by omega
                            go_wp2
                            go_roundw
                            case rel => exact ⟨d + 1, by omega, by go_num, by rw [← HEN.out], HF⟩
                            case measure => simp [intOf]; omega
                          · have m1 : (nA : Int) < 2 := by omega
                            have m2 : ¬ 2 * (X : Int) + (nA : Int) < A := by omega
                            have m3 : (X : Int) ≤ 8 := by omega
                            go_wp2
                            go_roundw
                            case rel => exact ⟨d + 1, by omega, by go_num, by rw [← HEN.out], HF⟩
                            case measure => simp [intOf]; omega
                    · obtain rfl : nH = d := by omega
                      obtain ⟨SN, BN⟩ := HD.out
                      rw [HYN.out] at SN ⊢
                      obtain ⟨HK, hHK⟩ : ∃ z, (N : Int) / 2 = z := ⟨_, rfl⟩
                      have dh : (N : Int).tdiv 2 = HK := by rw [Int.tdiv_eq_ediv_of_nonneg (by omega), hHK]
                      have h0 : 0 ≤ HK ∧ HK ≤ 2 := by omega
                      have wh : IntKind.i64.wrap HK = HK := (IntKind.wrap_i64 _).trans (by omega)
                      have nz : ¬ (N : Int) = 0 := by omega
                      have e0 : al one N = (N : Int) := al_one N
                      obtain ⟨u00, u01⟩ := HSB0.out N (Nat.le_refl _)
                      obtain ⟨u10, u11⟩ := HSB1.out N (Nat.le_refl _)
                      obtain ⟨u20, u21⟩ := HSB2.out N (Nat.le_refl _)
                      obtain ⟨u30, u31⟩ := HSB3.out N (Nat.le_refl _)
                      have hq0 : (sm (fun i => (C i).r) one N + HK) / (N : Int) = Q.r := by rw [← HQQ.out, ← hHK, ← e0]; rfl
                      have hq1 : (sm (fun i => (C i).g) one N + HK) / (N : Int) = Q.g := by rw [← HQQ.out, ← hHK, ← e0]; rfl
                      have hq2 : (sm (fun i => (C i).b) one N + HK) / (N : Int) = Q.b := by rw [← HQQ.out, ← hHK, ← e0]; rfl
                      have hq3 : (sm (fun i => (C i).a) one N + HK) / (N : Int) = Q.a := by rw [← HQQ.out, ← hHK, ← e0]; rfl
                      generalize sm (fun i => (C i).r) one N = S0 at SN u00 u01 hq0
                      generalize sm (fun i => (C i).g) one N = S1 at SN u10 u11 hq1
                      generalize sm (fun i => (C i).b) one N = S2 at SN u20 u21 hq2
                      generalize sm (fun i => (C i).a) one N = S3 at SN u30 u31 hq3
                      have dq0 : (S0 + HK).tdiv (N : Int) = Q.r := by rw [Int.tdiv_eq_ediv_of_nonneg (by omega), hq0]
                      have dq1 : (S1 + HK).tdiv (N : Int) = Q.g := by rw [Int.tdiv_eq_ediv_of_nonneg (by omega), hq1]
                      have dq2 : (S2 + HK).tdiv (N : Int) = Q.b := by rw [Int.tdiv_eq_ediv_of_nonneg (by omega), hq2]
                      have dq3 : (S3 + HK).tdiv (N : Int) = Q.a := by rw [Int.tdiv_eq_ediv_of_nonneg (by omega), hq3]
                      obtain ⟨⟨o00, o01⟩, ⟨o10, o11⟩, ⟨o20, o21⟩, ⟨o30, o31⟩⟩ := HQK.out
                      have wq0 : IntKind.i64.wrap Q.r = Q.r := (IntKind.wrap_i64 _).trans (by omega)
                      have wq1 : IntKind.i64.wrap Q.g = Q.g := (IntKind.wrap_i64 _).trans (by omega)
                      have wq2 : IntKind.i64.wrap Q.b = Q.b := (IntKind.wrap_i64 _).trans (by omega)
                      have wq3 : IntKind.i64.wrap Q.a = Q.a := (IntKind.wrap_i64 _).trans (by omega)
                      clear hHK e0 hq0 hq1 hq2 hq3 HD o00 o01 o10 o11 o20 o21 o30 o31
                      have YX : Y8 W1.heap.size wr (.slice va vn vc) (catB gm (Y * a + X)) := YXa.upto BN hvs
                      have BX : Below W1.heap.size W1 wr := BXa.trans (BN.mono hsb)
                      clear YXa BXa TXa BN
                      rcases hey with hA2 | ⟨hA1, hA1'⟩
                      case' inl => have k1 : ¬ (nH : Int) < 2 := by omega
                      case' inr =>
                        have k1 : (nH : Int) < 2 := by omega
                        have k2 : ¬ 2 * (Y : Int) + (nH : Int) < H := by omega
                        have k3 : (Y : Int) ≤ 8 := by omega
                      all_goals
                        go_wp2
                        generalize hWW : wr.drew = WX
                        replace SN := SN.next (below_drew (Below.refl _ _))
                        replace YX := YX.next (below_drew (Below.refl _ _))
                        replace BX := below_drew BX
                        rw [hWW] at SN YX BX
                        refine wp_region_held_drew (S := fun v => C4 v sb (.int .i64 S0) (.int .i64 S1) (.int .i64 S2) (.int .i64 S3)) (by kernel_rfl) (by rw [hWW]; exact SN) (fun hH => ?_)
                        rw [hWW] at hH ⊢
                        clear hWW SN
                        refine wpAnyH_take (i := 0) (oi := { dst := some 181, op := Op.move (Operand.tmp 16), type := 28, pos := "l16_texture.go:129", after := #[], guard := none }) (v := .slice va vn vc) rfl (by kernel_rfl) (by kernel_rfl) (by kernel_rfl) (fun _ _ _ h => h) (Or.inl ⟨by rfl, fun w0 hSw => by (go_simp)⟩) hH ?_
                        simp only [Act.put, List.setIfInBounds_toArray, List.set_cons_zero, List.set_cons_succ]
                        refine wpAnyH_take (i := 1) (oi := { dst := some 182, op := Op.move (Operand.tmp 2), type := 3, pos := "l16_texture.go:129", after := #[], guard := none }) (v := .int .i64 l) rfl (by kernel_rfl) (by kernel_rfl) (by kernel_rfl) (fun _ _ _ h => h) (Or.inl ⟨by rfl, fun w0 hSw => by (go_simp)⟩) hH ?_
                        simp only [Act.put, List.setIfInBounds_toArray, List.set_cons_zero, List.set_cons_succ]
                        refine wpAnyH_take (i := 2) (oi := { dst := some 183, op := Op.fieldAddr 25 (Operand.tmp 21) 0, type := 0, pos := "l16_texture.go:129", after := #[], guard := none }) (v := .pointer (some ⟨sb, 0, none⟩)) rfl (by kernel_rfl) (by kernel_rfl) (by kernel_rfl) (fun _ _ _ h => h) (Or.inl ⟨by rfl, fun w0 hSw => by (go_simp)⟩) hH ?_
                        simp only [Act.put, List.setIfInBounds_toArray, List.set_cons_zero, List.set_cons_succ]
                        refine wpAnyH_take (i := 3) (oi := { dst := some 184, op := Op.load 3 (Operand.tmp 183), type := 3, pos := "l16_texture.go:129", after := #[{ on := 2, ground := Ground.data }], guard := none }) (v := .int .i64 S0) rfl (by kernel_rfl) (by kernel_rfl) (by kernel_rfl) (fun _ _ _ h => h) (Or.inl ⟨by rfl, fun w0 hSw => by ((have e9 := hSw.c0); go_simp)⟩) hH ?_
                        simp only [Act.put, List.setIfInBounds_toArray, List.set_cons_zero, List.set_cons_succ]
                        refine wpAnyH_take (i := 4) (oi := { dst := some 185, op := Op.move (Operand.tmp 26), type := 3, pos := "l16_texture.go:129", after := #[], guard := none }) (v := .int .i64 HK) rfl (by kernel_rfl) (by kernel_rfl) (by kernel_rfl) (fun _ _ _ h => h) (Or.inl ⟨by rfl, fun w0 hSw => by (go_simp)⟩) hH ?_
                        simp only [Act.put, List.setIfInBounds_toArray, List.set_cons_zero, List.set_cons_succ]
                        refine wpAnyH_take (i := 5) (oi := { dst := some 186, op := Op.binOp BinOp.add 3 (Operand.tmp 184) (Operand.tmp 185) 3, type := 3, pos := "l16_texture.go:129", after := #[{ on := 3, ground := Ground.data }, { on := 4, ground := Ground.data }], guard := none }) (v := .int .i64 (S0 + HK)) rfl (by kernel_rfl) (by kernel_rfl) (by kernel_rfl) (fun _ _ _ h => h) (Or.inl ⟨by rfl, fun w0 hSw => by (go_simp <;> first | (intro h; exfalso; omega) | exact (IntKind.wrap_i64 _).trans (by omega) | omega)⟩) hH ?_
                        simp only [Act.put, List.setIfInBounds_toArray, List.set_cons_zero, List.set_cons_succ]
                        refine wpAnyH_take (i := 6) (oi := { dst := some 187, op := Op.move (Operand.tmp 22), type := 3, pos := "l16_texture.go:129", after := #[], guard := none }) (v := .int .i64 (N : Int)) rfl (by kernel_rfl) (by kernel_rfl) (by kernel_rfl) (fun _ _ _ h => h) (Or.inl ⟨by rfl, fun w0 hSw => by (go_simp)⟩) hH ?_
                        simp only [Act.put, List.setIfInBounds_toArray, List.set_cons_zero, List.set_cons_succ]
                        refine wpAnyH_take (i := 7) (oi := { dst := some 188, op := Op.binOp BinOp.quo 3 (Operand.tmp 186) (Operand.tmp 187) 3, type := 3, pos := "l16_texture.go:129", after := #[{ on := 5, ground := Ground.data }, { on := 6, ground := Ground.data }], guard := none }) (v := .int .i64 Q.r) rfl (by kernel_rfl) (by kernel_rfl) (by kernel_rfl) (fun _ _ _ h => h) (Or.inl ⟨by rfl, fun w0 hSw => by (go_simp <;> omega)⟩) hH ?_
                        simp only [Act.put, List.setIfInBounds_toArray, List.set_cons_zero, List.set_cons_succ]
                        refine wpAnyH_take (i := 8) (oi := { dst := some 189, op := Op.fieldAddr 25 (Operand.tmp 21) 1, type := 0, pos := "l16_texture.go:129", after := #[], guard := none }) (v := .pointer (some ⟨sb, 1, none⟩)) rfl (by kernel_rfl) (by kernel_rfl) (by kernel_rfl) (fun _ _ _ h => h) (Or.inl ⟨by rfl, fun w0 hSw => by (go_simp)⟩) hH ?_
                        simp only [Act.put, List.setIfInBounds_toArray, List.set_cons_zero, List.set_cons_succ]
                        refine wpAnyH_take (i := 9) (oi := { dst := some 190, op := Op.load 3 (Operand.tmp 189), type := 3, pos := "l16_texture.go:129", after := #[{ on := 8, ground := Ground.data }], guard := none }) (v := .int .i64 S1) rfl (by kernel_rfl) (by kernel_rfl) (by kernel_rfl) (fun _ _ _ h => h) (Or.inl ⟨by rfl, fun w0 hSw => by ((have e9 := hSw.c1); go_simp)⟩) hH ?_
                        simp only [Act.put, List.setIfInBounds_toArray, List.set_cons_zero, List.set_cons_succ]
                        refine wpAnyH_take (i := 10) (oi := { dst := some 191, op := Op.move (Operand.tmp 26), type := 3, pos := "l16_texture.go:129", after := #[], guard := none }) (v := .int .i64 HK) rfl (by kernel_rfl) (by kernel_rfl) (by kernel_rfl) (fun _ _ _ h => h) (Or.inl ⟨by rfl, fun w0 hSw => by (go_simp)⟩) hH ?_
                        simp only [Act.put, List.setIfInBounds_toArray, List.set_cons_zero, List.set_cons_succ]
                        refine wpAnyH_take (i := 11) (oi := { dst := some 192, op := Op.binOp BinOp.add 3 (Operand.tmp 190) (Operand.tmp 191) 3, type := 3, pos := "l16_texture.go:129", after := #[{ on := 9, ground := Ground.data }, { on := 10, ground := Ground.data }], guard := none }) (v := .int .i64 (S1 + HK)) rfl (by kernel_rfl) (by kernel_rfl) (by kernel_rfl) (fun _ _ _ h => h) (Or.inl ⟨by rfl, fun w0 hSw => by (go_simp <;> first | (intro h; exfalso; omega) | exact (IntKind.wrap_i64 _).trans (by omega) | omega)⟩) hH ?_
                        simp only [Act.put, List.setIfInBounds_toArray, List.set_cons_zero, List.set_cons_succ]
                        refine wpAnyH_take (i := 12) (oi := { dst := some 193, op := Op.move (Operand.tmp 22), type := 3, pos := "l16_texture.go:129", after := #[], guard := none }) (v := .int .i64 (N : Int)) rfl (by kernel_rfl) (by kernel_rfl) (by kernel_rfl) (fun _ _ _ h => h) (Or.inl ⟨by rfl, fun w0 hSw => by (go_simp)⟩) hH ?_
                        simp only [Act.put, List.setIfInBounds_toArray, List.set_cons_zero, List.set_cons_succ]
                        refine wpAnyH_take (i := 13) (oi := { dst := some 194, op := Op.binOp BinOp.quo 3 (Operand.tmp 192) (Operand.tmp 193) 3, type := 3, pos := "l16_texture.go:129", after := #[{ on := 11, ground := Ground.data }, { on := 12, ground := Ground.data }], guard := none }) (v := .int .i64 Q.g) rfl (by kernel_rfl) (by kernel_rfl) (by kernel_rfl) (fun _ _ _ h => h) (Or.inl ⟨by rfl, fun w0 hSw => by (go_simp <;> omega)⟩) hH ?_
                        simp only [Act.put, List.setIfInBounds_toArray, List.set_cons_zero, List.set_cons_succ]
                        refine wpAnyH_take (i := 14) (oi := { dst := some 195, op := Op.fieldAddr 25 (Operand.tmp 21) 2, type := 0, pos := "l16_texture.go:129", after := #[], guard := none }) (v := .pointer (some ⟨sb, 2, none⟩)) rfl (by kernel_rfl) (by kernel_rfl) (by kernel_rfl) (fun _ _ _ h => h) (Or.inl ⟨by rfl, fun w0 hSw => by (go_simp)⟩) hH ?_
                        simp only [Act.put, List.setIfInBounds_toArray, List.set_cons_zero, List.set_cons_succ]
                        refine wpAnyH_take (i := 15) (oi := { dst := some 196, op := Op.load 3 (Operand.tmp 195), type := 3, pos := "l16_texture.go:129", after := #[{ on := 14, ground := Ground.data }], guard := none }) (v := .int .i64 S2) rfl (by kernel_rfl) (by kernel_rfl) (by kernel_rfl) (fun _ _ _ h => h) (Or.inl ⟨by rfl, fun w0 hSw => by ((have e9 := hSw.c2); go_simp)⟩) hH ?_
                        simp only [Act.put, List.setIfInBounds_toArray, List.set_cons_zero, List.set_cons_succ]
                        refine wpAnyH_take (i := 16) (oi := { dst := some 197, op := Op.move (Operand.tmp 26), type := 3, pos := "l16_texture.go:129", after := #[], guard := none }) (v := .int .i64 HK) rfl (by kernel_rfl) (by kernel_rfl) (by kernel_rfl) (fun _ _ _ h => h) (Or.inl ⟨by rfl, fun w0 hSw => by (go_simp)⟩) hH ?_
                        simp only [Act.put, List.setIfInBounds_toArray, List.set_cons_zero, List.set_cons_succ]
                        refine wpAnyH_take (i := 17) (oi := { dst := some 198, op := Op.binOp BinOp.add 3 (Operand.tmp 196) (Operand.tmp 197) 3, type := 3, pos := "l16_texture.go:129", after := #[{ on := 15, ground := Ground.data }, { on := 16, ground := Ground.data }], guard := none }) (v := .int .i64 (S2 + HK)) rfl (by kernel_rfl) (by kernel_rfl) (by kernel_rfl) (fun _ _ _ h => h) (Or.inl ⟨by rfl, fun w0 hSw => by (go_simp <;> first | (intro h; exfalso; omega) | exact (IntKind.wrap_i64 _).trans (by omega) | omega)⟩) hH ?_
                        simp only [Act.put, List.setIfInBounds_toArray, List.set_cons_zero, List.set_cons_succ]
                        refine wpAnyH_take (i := 18) (oi := { dst := some 199, op := Op.move (Operand.tmp 22), type := 3, pos := "l16_texture.go:129", after := #[], guard := none }) (v := .int .i64 (N : Int)) rfl (by kernel_rfl) (by kernel_rfl) (by kernel_rfl) (fun _ _ _ h => h) (Or.inl ⟨by rfl, fun w0 hSw => by (go_simp)⟩) hH ?_
                        simp only [Act.put, List.setIfInBounds_toArray, List.set_cons_zero, List.set_cons_succ]
                        refine wpAnyH_take (i := 19) (oi := { dst := some 200, op := Op.binOp BinOp.quo 3 (Operand.tmp 198) (Operand.tmp 199) 3, type := 3, pos := "l16_texture.go:129", after := #[{ on := 17, ground := Ground.data }, { on := 18, ground := Ground.data }], guard := none }) (v := .int .i64 Q.b) rfl (by kernel_rfl) (by kernel_rfl) (by kernel_rfl) (fun _ _ _ h => h) (Or.inl ⟨by rfl, fun w0 hSw => by (go_simp <;> omega)⟩) hH ?_
                        simp only [Act.put, List.setIfInBounds_toArray, List.set_cons_zero, List.set_cons_succ]
                        refine wpAnyH_take (i := 20) (oi := { dst := some 201, op := Op.fieldAddr 25 (Operand.tmp 21) 3, type := 0, pos := "l16_texture.go:129", after := #[], guard := none }) (v := .pointer (some ⟨sb, 3, none⟩)) rfl (by kernel_rfl) (by kernel_rfl) (by kernel_rfl) (fun _ _ _ h => h) (Or.inl ⟨by rfl, fun w0 hSw => by (go_simp)⟩) hH ?_
                        simp only [Act.put, List.setIfInBounds_toArray, List.set_cons_zero, List.set_cons_succ]
                        refine wpAnyH_take (i := 21) (oi := { dst := some 202, op := Op.load 3 (Operand.tmp 201), type := 3, pos := "l16_texture.go:129", after := #[{ on := 20, ground := Ground.data }], guard := none }) (v := .int .i64 S3) rfl (by kernel_rfl) (by kernel_rfl) (by kernel_rfl) (fun _ _ _ h => h) (Or.inl ⟨by rfl, fun w0 hSw => by ((have e9 := hSw.c3); go_simp)⟩) hH ?_
                        simp only [Act.put, List.setIfInBounds_toArray, List.set_cons_zero, List.set_cons_succ]
                        refine wpAnyH_take (i := 22) (oi := { dst := some 203, op := Op.move (Operand.tmp 26), type := 3, pos := "l16_texture.go:129", after := #[], guard := none }) (v := .int .i64 HK) rfl (by kernel_rfl) (by kernel_rfl) (by kernel_rfl) (fun _ _ _ h => h) (Or.inl ⟨by rfl, fun w0 hSw => by (go_simp)⟩) hH ?_
                        simp only [Act.put, List.setIfInBounds_toArray, List.set_cons_zero, List.set_cons_succ]
                        refine wpAnyH_take (i := 23) (oi := { dst := some 204, op := Op.binOp BinOp.add 3 (Operand.tmp 202) (Operand.tmp 203) 3, type := 3, pos := "l16_texture.go:129", after := #[{ on := 21, ground := Ground.data }, { on := 22, ground := Ground.data }], guard := none }) (v := .int .i64 (S3 + HK)) rfl (by kernel_rfl) (by kernel_rfl) (by kernel_rfl) (fun _ _ _ h => h) (Or.inl ⟨by rfl, fun w0 hSw => by (go_simp <;> first | (intro h; exfalso; omega) | exact (IntKind.wrap_i64 _).trans (by omega) | omega)⟩) hH ?_
                        simp only [Act.put, List.setIfInBounds_toArray, List.set_cons_zero, List.set_cons_succ]
                        refine wpAnyH_take (i := 24) (oi := { dst := some 205, op := Op.move (Operand.tmp 22), type := 3, pos := "l16_texture.go:129", after := #[], guard := none }) (v := .int .i64 (N : Int)) rfl (by kernel_rfl) (by kernel_rfl) (by kernel_rfl) (fun _ _ _ h => h) (Or.inl ⟨by rfl, fun w0 hSw => by (go_simp)⟩) hH ?_
                        simp only [Act.put, List.setIfInBounds_toArray, List.set_cons_zero, List.set_cons_succ]
                        refine wpAnyH_take (i := 25) (oi := { dst := some 206, op := Op.binOp BinOp.quo 3 (Operand.tmp 204) (Operand.tmp 205) 3, type := 3, pos := "l16_texture.go:129", after := #[{ on := 23, ground := Ground.data }, { on := 24, ground := Ground.data }], guard := none }) (v := .int .i64 Q.a) rfl (by kernel_rfl) (by kernel_rfl) (by kernel_rfl) (fun _ _ _ h => h) (Or.inl ⟨by rfl, fun w0 hSw => by (go_simp <;> omega)⟩) hH ?_
                        simp only [Act.put, List.setIfInBounds_toArray, List.set_cons_zero, List.set_cons_succ]
                        refine wpAnyH_take (i := 26) (oi := { dst := some 207, op := Op.build 25 #[(0, Operand.tmp 188), (1, Operand.tmp 194), (2, Operand.tmp 200), (3, Operand.tmp 206)], type := 25, pos := "l16_texture.go:129", after := #[{ on := 7, ground := Ground.data }, { on := 13, ground := Ground.data }, { on := 19, ground := Ground.data }, { on := 25, ground := Ground.data }], guard := none }) (v := .agg #[.int .i64 Q.r, .int .i64 Q.g, .int .i64 Q.b, .int .i64 Q.a]) rfl (by kernel_rfl) (by kernel_rfl) (by kernel_rfl) (fun _ _ _ h => h) (Or.inl ⟨by rfl, fun w0 hSw => by (go_simp)⟩) hH ?_
                        simp only [Act.put, List.setIfInBounds_toArray, List.set_cons_zero, List.set_cons_succ]
                        refine wpAnyH_ready (rs := [27]) (by kernel_rfl) (by simp) ?_
                        refine (AllReadyH.cons (o := { dst := some 208, op := Op.call { callee := Callee.value (Operand.func 14), args := #[Operand.tmp 182, Operand.tmp 207], argTypes := #[3, 25] }, type := 28, pos := "l16_texture.go:129", after := #[{ on := 1, ground := Ground.data }, { on := 26, ground := Ground.data }], guard := none }) rfl (fun K hK => ?_) AllReadyH.nil)
                        refine step_callC 14 #[.int .i64 l, .agg #[.int .i64 Q.r, .int .i64 Q.g, .int .i64 Q.b, .int .i64 Q.a]] (fun z v w' => BOwn v.heap.size w' z LP ∧ Below v.heap.size v w') (by rfl) (by go_simp) ((HPK.out _).mono fun e w' ⟨u, h1, h2, h3⟩ => ⟨u, h1, h2, h3⟩) ?_
                        rintro zc wc ⟨BO, Bc⟩
                        replace YX := YX.next Bc
                        replace BX := BX.trans (Bc.mono (Nat.le_trans hsb (Nat.le_of_lt hH.hi)))
                        simp only [Act.put, List.setIfInBounds_toArray, List.set_cons_zero, List.set_cons_succ]
                        refine hK.out _ _ (hH.next Bc) (fun hH' => ?_)
                        clear hK K
                        replace hH := hH'
                        clear hH' 
                        clear Bc
                        refine wpAnyH_ready (rs := [28]) (by kernel_rfl) (by simp) ?_
                        refine (AllReadyH.cons (o := { dst := some 209, op := Op.call { callee := Callee.builtin Builtin.append, args := #[Operand.tmp 181, Operand.tmp 208], argTypes := #[28, 28] }, type := 28, pos := "l16_texture.go:129", after := #[{ on := 0, ground := Ground.data }, { on := 27, ground := Ground.data }, { on := 27, ground := Ground.chain }], guard := none }) rfl (fun K hK => ?_) AllReadyH.nil)
                        obtain ⟨g, cap, wa, hra, YN, hga⟩ := run_append_y8 (ty := 28) YX BO (by have := HLP.out; have := HLM.out; omega) (by have := HLP.out; omega)
                        obtain ⟨nl, hnl⟩ : ∃ z, (catB gm (Y * a + X) ++ LP).length = z := ⟨_, rfl⟩
                        rw [hnl] at hra YN
                        clear hnl
                        refine step_app (.tmp 181) (.tmp 208) 28 _ _ _ wa (by rfl) (by rfl) (by rfl) (by rfl) hra ?_
                        have Ba : Below W1.heap.size W1 wa := BX.trans (below_grown (Below.refl _ _) BX.size hga (fun q hq => (YX.lt q hq).1))
                        simp only [Act.put, List.setIfInBounds_toArray, List.set_cons_zero, List.set_cons_succ]
                        refine hK.out _ _ (hH.block (hga.block sb hH.hi (fun e => by have := hvs sb e.symm; omega)) hga.size) (fun hH' => ?_)
                        clear hK K
                        replace hH := hH'
                        clear hH' 
                        clear hga hra YX BO
                        refine wpAnyH_take (i := 29) (oi := { dst := some 16, op := Op.assign (Operand.tmp 209), type := 28, pos := "l16_texture.go:129", after := #[{ on := 28, ground := Ground.data }, { on := 28, ground := Ground.chain }, { on := 0, ground := Ground.phase }, { on := 1, ground := Ground.phase }, { on := 2, ground := Ground.phase }, { on := 3, ground := Ground.phase }, { on := 4, ground := Ground.phase }, { on := 5, ground := Ground.phase }, { on := 6, ground := Ground.phase }, { on := 7, ground := Ground.phase }, { on := 8, ground := Ground.phase }, { on := 9, ground := Ground.phase }, { on := 10, ground := Ground.phase }, { on := 11, ground := Ground.phase }, { on := 12, ground := Ground.phase }, { on := 13, ground := Ground.phase }, { on := 14, ground := Ground.phase }, { on := 15, ground := Ground.phase }, { on := 16, ground := Ground.phase }, { on := 17, ground := Ground.phase }, { on := 18, ground := Ground.phase }, { on := 19, ground := Ground.phase }, { on := 20, ground := Ground.phase }, { on := 21, ground := Ground.phase }, { on := 22, ground := Ground.phase }, { on := 23, ground := Ground.phase }, { on := 24, ground := Ground.phase }, { on := 25, ground := Ground.phase }, { on := 26, ground := Ground.phase }, { on := 27, ground := Ground.phase }, { on := 28, ground := Ground.phase }], guard := none }) (v := .slice (some ⟨g, 0, none⟩) nl cap) rfl (by kernel_rfl) (by kernel_rfl) (by kernel_rfl) (fun _ _ _ h => h) (Or.inl ⟨by rfl, fun w0 hSw => by (go_simp)⟩) hH ?_
                        simp only [Act.put, List.setIfInBounds_toArray, List.set_cons_zero, List.set_cons_succ]
                        refine wpAnyH_done (by kernel_rfl) ?_ _
                        go_wp2
                        go_roundw
                        case rel => exact ⟨X + 1, _, by omega, by go_num, rfl, ⟨by rw [← Nat.add_assoc, HCS.out, HGE.out]; exact YN, Ba⟩⟩
                        case measure => simp [intOf]; omega
                · obtain rfl : a = X := by omega
                  have i3 : ¬ (a : Int) < (a : Int) := by omega
                  have HF : Hid (Y8 W1.heap.size wr v (catB gm ((Y + 1) * a)) ∧ Below W1.heap.size W1 wr) := ⟨by rw [Nat.succ_mul]; exact YX, BX⟩
                  clear HR YX BX
                  go_wp2
                  go_roundw
                  case rel => exact ⟨Y + 1, _, by omega, by go_num, rfl, HF⟩
                  case measure => simp [intOf]; omega
            · obtain rfl : h = Y := by omega
              have i2 : ¬ (h : Int) < (h : Int) := by omega
              have YM : Y8 W1.heap.size wr v (MF (j + 1)) := by rw [HMS.out]; exact YW
              obtain ⟨va, vc, rfl⟩ := YM.is
              obtain ⟨vn, hvn⟩ : ∃ z, (MF (j + 1)).length = z := ⟨_, rfl⟩
              rw [hvn] at YM ⊢
              clear hvn HR YW HMS
              have T7 := HM.out.t.next BR
              have O7 := HM.out.o.next BR
              have HST : Hid (∀ (w8 : World) (g cap : Nat) (o : Obj), (wr.alloc o).grownBy w8 (Value.slice (some ⟨lg, 0, none⟩) (j + 1) lc).ownBlock → T8 (tb + 1) w8 (.slice (some ⟨g, 0, none⟩) (us.length + 1) cap) (us ++ [.slice va vn vc]) → ((Value.slice (some ⟨lg, 0, none⟩) (j + 1) lc).ownBlock = some g ∨ g = (wr.alloc o).heap.size) → Lq tb B9 C9 s y l NL (.slice (some ⟨sg, 0, none⟩) NL sc) MF V2 (j + 1) (us ++ [.slice va vn vc]) (.slice (some ⟨g, 0, none⟩) (us.length + 1) cap) (w8.setCell ⟨tb, 3, none⟩ (.slice (some ⟨g, 0, none⟩) (us.length + 1) cap)) ∧ C4 w8 tb (.int .i64 s) (.int .i64 y) (.int .i64 l) (.slice (some ⟨lg, 0, none⟩) (j + 1) lc)) := fun w8 g cap o hgr HT hgo => HM.out.step BR YM hgr HT hgo
              have hul : us.length = j + 1 := HM.out.h
              rw [hul] at HST
              clear BR YM HM
              have t0 := T7.c0
              have t1 := T7.c1
              have t2 := T7.c2
              have t3 := T7.c3
              go_wp2_with (at_builtin; refine wpList_append_t8 (u := .slice va vn vc) (.tmp 211) (.tmp 213) rfl rfl rfl rfl (O7.next (alloc_b (o := (.cells #[.slice va vn vc] 28)))) (by simp) rfl (by omega) ?_)
              intro g cap w8 HT hgr hgo
              obtain ⟨HN, T8c⟩ := HST.out w8 g cap _ hgr HT (by rw [World.size_alloc]; exact hgo)
              have HN := Hid.mk HN
              clear HT hgr hgo t0 t1 t2 t3 HST T7 O7 y1 y2 y3
              have t0 := T8c.c0
              have t1 := T8c.c1
              have t2 := T8c.c2
              have t3 := T8c.c3
              have tf := T8c.f
              go_wp2
              go_roundw
              case rel => exact ⟨ii + 1, j + 1, _, _, by omega, by omega, by go_num, HN⟩
              case measure => simp [intOf]; omega
        · have i1 : ¬ (ii : Int) < (NL : Int) := by omega
          have D5 := D4.low HM.out.b (by omega)
          have MT := HM.out.t
          have t0 := MT.c0
          have t1 := MT.c1
          have t2 := MT.c2
          have t3 := MT.c3
          have x0 := D5.c0
          have x1 := D5.c1
          have x2 := D5.c2
          have x3 := D5.c3
          have xf := D5.f
          have O9 := only_set4 wr w.heap.size (.int .i64 s) (.int .i64 y) (.int .i64 l) (.slice (some ⟨lg, 0, none⟩) (j + 1) lc)
          have D9 := D5.put (.int .i64 s) (.int .i64 y) (.int .i64 l) (.slice (some ⟨lg, 0, none⟩) (j + 1) lc)
          have BW5 : Below w.heap.size w wr := BX4.trans (HM.out.b.mono (by omega))
          have B9 : Below w.heap.size w _ := BW5.trans (O9.below (Nat.le_refl _) BW5.size)
          have T9 := (HM.out.o.grown (only_grown O9) (Or.inr (by have := (HM.out.o.lt lg rfl).1; simp [Value.ownBlock]; omega))).low (show w.heap.size ≤ tb + 1 by omega)
          have L9 := HM.out.r.grown (only_grown O9) (fun i hi => by
            cases e : (us.getD i (.slice none 0 0)).ownBlock with
            | none => exact Or.inl rfl
            | some q => exact Or.inr (by have := (HM.out.r.lt i q hi e).1; simp; omega))
          have L9 : Lv w.heap.size _ us MF := ⟨fun i hi => (L9.r i hi).low (by omega), L9.m⟩
          have hul : us.length = NL := by rw [HM.out.h]; omega
          unfold set4 at D9 B9 T9 L9
          have HF := Hid.mk (And.intro D9 (And.intro B9 (And.intro T9 (And.intro L9 hul))))
          clear O9 D9 B9 T9 L9 BW5 hul HM MT D5 hS
          go_wp2
          clear x0 x1 x2 x3 xf t0 t1 t2 t3
          obtain ⟨D9, B9, T9, L9, hul⟩ := HF.out
          have r0 := D9.c0
          have r1 := D9.c1
          have r2 := D9.c2
          have r3 := D9.c3
          exact bodyPost_ret (v := .tuple #[.agg #[.int .i64 s, .int .i64 y, .int .i64 l, .slice (some ⟨lg, 0, none⟩) (j + 1) lc], .bool true]) (by simp [results, Try.results29, go_sem, r0, r1, r2, r3]) rfl ⟨_, rfl, ⟨us, HMA.out _ _ us T9 hul L9⟩, B9⟩
end Go.Proofs.Ythkngcdfnemhaaa
