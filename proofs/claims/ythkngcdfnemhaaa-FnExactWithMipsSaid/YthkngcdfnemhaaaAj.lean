/- GoodTexture of both sides. -/
import Derived.Test.YthkngcdfnemhaaaAi
import Derived.BigQuiet
namespace Go.Proofs.Ythkngcdfnemhaaa
open Go.ChangeShapes Go.WideShapes Go.ChangeAt Go.RowKit
set_option linter.unusedVariables false
def allN (p : Nat → Bool) : Nat → Bool
  | 0 => true
  | k + 1 => allN p k && p k
theorem allN_iff (p : Nat → Bool) : ∀ n, allN p n = true ↔ ∀ k, k < n → p k = true
  | 0 => ⟨fun _ k hk => absurd hk (Nat.not_lt_zero _), fun _ => rfl⟩
  | n + 1 => by
    rw [allN, Bool.and_eq_true, allN_iff p n]
    constructor
    · rintro ⟨h1, h2⟩ k hk
      by_cases e : k = n
      · subst e; exact h2
      · exact h1 k (by omega)
    · exact fun h => ⟨fun k hk => h k (by omega), h n (by omega)⟩
theorem allN_no {p : Nat → Bool} {n k : Nat} (hk : k < n) (h : p k = false) : allN p n = false := by
  cases e : allN p n
  · rfl
  · rw [(allN_iff p n).1 e k hk] at h; cases h
theorem step_callC {P : Program} {ops : Array Oper} {o : Oper} {a : Act} {w : World} {K : Act → World → Prop} {Q : Exit → Act → World → Prop} {E : Prop} (f : FuncId) (args : Array Value) (R : Value → World → World → Prop) (hgd : o.guard = none) (hrun : (execOp a.eval o).run P w = .ok (.enter f args) w) (h : Calls P f args w fun e w' => ∃ v, e = .returned v ∧ R v w w') (hK : ∀ v w', R v w w' → K (a.put o.dst v) w') : if Region.wanted o (yielded ops a.tmps) = true then Oper.wp P o a w K Q else E := by
  have hw : Region.wanted o (yielded ops a.tmps) = true := by simp [Region.wanted, hgd]
  rw [if_pos hw]
  unfold Oper.wp
  rw [hrun, Oper.upon_enter]
  refine h.mono ?_
  rintro e w' ⟨v, rfl, hR⟩
  exact hK v w' hR
theorem step_val {P : Program} {ops : Array Oper} {o : Oper} {a : Act} {w : World} {K : Act → World → Prop} {Q : Exit → Act → World → Prop} {E : Prop} (v : Value) (w' : World) (hgd : o.guard = none) (hrun : (execOp a.eval o).run P w = .ok (.value v) w') (hK : K (a.put o.dst v) w') : if Region.wanted o (yielded ops a.tmps) = true then Oper.wp P o a w K Q else E := by
  have hw : Region.wanted o (yielded ops a.tmps) = true := by simp [Region.wanted, hgd]
  rw [if_pos hw]
  unfold Oper.wp
  rw [hrun, Oper.upon_value]
  exact hK
/-- A level of the right length. -/
def okR (s y l : Int) (k : Nat) (L : List Int) : Bool := decide ((L.length : Int) = sdI s k * sdI y k * (szF l : Int))
/-- A good texture. -/
def gtB (s y l : Int) (n : Nat) (f : Nat → List Int) : Bool := gsB s && (gsB y && (fmB l && (decide (n = lcN s y) && allN (fun k => okR s y l k (f k)) n)))
theorem gt_iff (s y l : Int) (n : Nat) (f : Nat → List Int) : gtB s y l n f = true ↔ gS s ∧ gS y ∧ fmB l = true ∧ n = lcN s y ∧ ∀ k, k < n → ((f k).length : Int) = sdI s k * sdI y k * (szF l : Int) := by
  unfold gtB
  simp only [Bool.and_eq_true, gsB_iff, decide_eq_true_eq, allN_iff, okR]
theorem szF_pos {l : Int} (h : fmB l = true) : 1 ≤ szF l ∧ szF l ≤ 4 := by
  rcases fm_cases l with rfl | rfl | rfl | h1
  · decide
  · decide
  · decide
  · rw [(fm_no h1).2.1] at h; cases h
theorem prod_small {a b : Int} {z : Nat} (a0 : 1 ≤ a) (a1 : a ≤ 16) (b0 : 1 ≤ b) (b1 : b ≤ 16) (z1 : z ≤ 4) : 0 ≤ a * b ∧ a * b ≤ 256 ∧ 0 ≤ a * b * (z : Int) ∧ a * b * (z : Int) ≤ 1024 ∧ 0 ≤ (z : Int) * a ∧ (z : Int) * a ≤ 64 := by
  have h0 : 0 ≤ a * b := Int.mul_nonneg (by omega) (by omega)
  have h1 : a * b ≤ 16 * 16 := Int.mul_le_mul a1 b1 (by omega) (by omega)
  have h2 : 0 ≤ a * b * (z : Int) := Int.mul_nonneg h0 (by omega)
  have h3 : a * b * (z : Int) ≤ 256 * 4 := Int.mul_le_mul (by omega) (by omega) (by omega) (by omega)
  have h4 : 0 ≤ (z : Int) * a := Int.mul_nonneg (by omega) (by omega)
  have h5 : (z : Int) * a ≤ 4 * 16 := Int.mul_le_mul (by omega) a1 (by omega) (by omega)
  omega
set_option maxRecDepth 100000 in
set_option maxHeartbeats 1000000 in
theorem mgoodT (s y l : Int) (v : Value) (n : Nat) (f : Nat → List Int) (w : World) (R : BRows w v n f) (hn : n ≤ 1048576) (hfl : ∀ x, x < n → (f x).length ≤ 1048576) : Calls Try.prog 24 #[.agg #[.int .i64 s, .int .i64 y, .int .i64 l, v]] w fun e w' => e = .returned (.bool (gtB s y l n f)) ∧ Below w.heap.size w w' := by
  have HGB : Hid (gtB s y l n f = (gsB s && (gsB y && (fmB l && (decide (n = lcN s y) && allN (fun k => okR s y l k (f k)) n))))) := rfl
  generalize gtB s y l n f = GB at HGB ⊢
  obtain ⟨W, hW⟩ : ∃ W, W = w.alloc (.cells #[.int .i64 s, .int .i64 y, .int .i64 l, v] 43) := ⟨_, rfl⟩
  have BW : Below w.heap.size w W := by rw [hW]; exact alloc_b
  have HBW : Hid (∀ w', Below W.heap.size W w' → Below w.heap.size w w') := fun w' b => BW.trans (b.mono BW.size)
  have CW : C4 W w.heap.size (.int .i64 s) (.int .i64 y) (.int .i64 l) v := by rw [hW]; exact C4.new _ _ _ _ _ _
  have HCW : Hid (∀ w', Below W.heap.size W w' → C4 w' w.heap.size (.int .i64 s) (.int .i64 y) (.int .i64 l) v) := fun w' b => CW.next b
  have HR : Hid (∀ w', Below W.heap.size W w' → BRows w' v n f) := fun w' b => (R.next BW).next b
  have HFL := Hid.mk hfl
  obtain ⟨ad, cp, rfl, _⟩ := R
  clear BW CW hfl
  subst hW
  cases hs : gsB s
  case false =>
    have HGF : Hid (GB = false) := by show _ = _; rw [HGB.out, hs]; simp
    have HS1 : Hid (∀ w, Calls Try.prog 48 #[.int .i64 s] w fun e w' => e = .returned (.bool false) ∧ w' = w) := fun w => by have := side48 s w; rwa [hs] at this
    clear hs
    clear HGB HR
    go_enter Try.func24, Try.ntmps24
    go_wp2_with (first | (go_at_call 48; (with_reducible show Calls Try.prog 48 #[.int .i64 s] _ _); refine (HS1.out _).mono ?_; rintro e w3 ⟨rfl, hw3⟩; subst w3))
    go_ret
    exact ⟨by rw [HGF.out]; rfl, HBW.out _ (Below.refl _ _)⟩
  have HS1 : Hid (∀ w, Calls Try.prog 48 #[.int .i64 s] w fun e w' => e = .returned (.bool true) ∧ w' = w) := fun w => by have := side48 s w; rwa [hs] at this
  cases hy : gsB y
  case false =>
    have HGF : Hid (GB = false) := by show _ = _; rw [HGB.out, hy]; simp
    have HS2 : Hid (∀ w, Calls Try.prog 48 #[.int .i64 y] w fun e w' => e = .returned (.bool false) ∧ w' = w) := fun w => by have := side48 y w; rwa [hy] at this
    clear hy
    clear HGB HR
    go_enter Try.func24, Try.ntmps24
    go_wp2_with (first | (go_at_call 48; (with_reducible show Calls Try.prog 48 #[.int .i64 s] _ _); refine (HS1.out _).mono ?_; rintro e w3 ⟨rfl, hw3⟩; subst w3) | (go_at_call 48; (with_reducible show Calls Try.prog 48 #[.int .i64 y] _ _); refine (HS2.out _).mono ?_; rintro e w3 ⟨rfl, hw3⟩; subst w3))
    go_ret
    exact ⟨by rw [HGF.out]; rfl, HBW.out _ (Below.refl _ _)⟩
  have HS2 : Hid (∀ w, Calls Try.prog 48 #[.int .i64 y] w fun e w' => e = .returned (.bool true) ∧ w' = w) := fun w => by have := side48 y w; rwa [hy] at this
  have HZ : Hid (∀ w, Calls Try.prog 44 #[.int .i64 l] w fun e w' => e = .returned (.int .i64 (szF l)) ∧ w' = w) := fun w => size44 l w
  cases hf : fmB l
  case false =>
    have HGF : Hid (GB = false) := by show _ = _; rw [HGB.out, hf]; simp
    have hz : szF l = 0 := by
      rcases fm_cases l with rfl | rfl | rfl | h
      · cases hf
      · cases hf
      · cases hf
      · exact (fm_no h).2.2
    rw [hz] at HZ
    clear hf hz
    clear HGB HR
    go_enter Try.func24, Try.ntmps24
    go_wp2_with (first | (go_at_call 48; (with_reducible show Calls Try.prog 48 #[.int .i64 s] _ _); refine (HS1.out _).mono ?_; rintro e w3 ⟨rfl, hw3⟩; subst w3) | (go_at_call 48; (with_reducible show Calls Try.prog 48 #[.int .i64 y] _ _); refine (HS2.out _).mono ?_; rintro e w3 ⟨rfl, hw3⟩; subst w3) | (go_at_call 44; refine (HZ.out _).mono ?_; rintro e w3 ⟨rfl, hw3⟩; subst w3))
    go_ret
    exact ⟨by rw [HGF.out]; rfl, HBW.out _ (Below.refl _ _)⟩
  have gs1 := gsB_iff.1 hs
  have gs2 := gsB_iff.1 hy
  obtain ⟨z0, z1⟩ := szF_pos hf
  have H49 : Hid (∀ w, Calls Try.prog 49 #[.int .i64 s, .int .i64 y] w fun e w' => ∃ v, e = .returned v ∧ SdR w' v (lcN s y) s y ∧ Below w.heap.size w w') := fun w => sides49 s y w gs1 gs2
  have hzb : (((szF l : Nat) : Int) == 0) = false := by simp; omega
  have lc1 := lcN_le s y
  by_cases en : n = lcN s y
  case neg =>
    have HGF : Hid (GB = false) := by show _ = _; rw [HGB.out, decide_eq_false en]; simp
    have en2 : ((n : Int) != ((lcN s y : Nat) : Int)) = true := by simp; omega
    clear HGB HR
    generalize szF l = z at *
    generalize lcN s y = lc at H49 en2
    go_enter Try.func24, Try.ntmps24
    go_wp2_with (first | (go_at_call 48; (with_reducible show Calls Try.prog 48 #[.int .i64 s] _ _); refine (HS1.out _).mono ?_; rintro e w3 ⟨rfl, hw3⟩; subst w3) | (go_at_call 48; (with_reducible show Calls Try.prog 48 #[.int .i64 y] _ _); refine (HS2.out _).mono ?_; rintro e w3 ⟨rfl, hw3⟩; subst w3) | (go_at_call 44; refine (HZ.out _).mono ?_; rintro e w3 ⟨rfl, hw3⟩; subst w3) | (go_at_call 49; refine (H49.out _).mono ?_; rintro e w2 ⟨v2, rfl, ⟨g2, c2, p2, rfl, _⟩, B2⟩; (have CN := HCW.out _ B2); (have t0 := CN.c0); (have t1 := CN.c1); (have t2 := CN.c2); (have t3 := CN.c3)))
    go_ret
    exact ⟨by rw [HGF.out]; rfl, HBW.out _ B2⟩
  have HG : Hid (GB = allN (fun k => okR s y l k (f k)) n) := by show _ = _; rw [HGB.out, hs, hy, hf, decide_eq_true en]; rfl
  have HGF : Hid (∀ x, x < n → okR s y l x (f x) = false → GB = false) := fun x hx h => by rw [HG.out]; exact allN_no hx h
  have HGT : Hid ((∀ x, x < n → okR s y l x (f x) = true) → GB = true) := fun h => by rw [HG.out]; exact (allN_iff _ n).2 h
  have HN : Hid (n = lcN s y) := en
  have en2 : ((n : Int) != ((lcN s y : Nat) : Int)) = false := by simp; omega
  rw [← en] at H49 en2
  have HN2 : Hid (n ≤ lcN s y) := by show _ ≤ _; omega
  clear HG HGB hs hy hf en
  go_enter Try.func24, Try.ntmps24
  go_wp2_with (first | (go_at_call 48; (with_reducible show Calls Try.prog 48 #[.int .i64 s] _ _); refine (HS1.out _).mono ?_; rintro e w3 ⟨rfl, hw3⟩; subst w3) | (go_at_call 48; (with_reducible show Calls Try.prog 48 #[.int .i64 y] _ _); refine (HS2.out _).mono ?_; rintro e w3 ⟨rfl, hw3⟩; subst w3) | (go_at_call 44; refine (HZ.out _).mono ?_; rintro e w3 ⟨rfl, hw3⟩; subst w3) | (go_at_call 49; refine (H49.out _).mono ?_; rintro e w2 ⟨v2, rfl, ⟨g2, c2, p2, rfl, hsd⟩, B2⟩; (have HSD := Hid.mk hsd); clear hsd; (have CN := HCW.out _ B2); (have t0 := CN.c0); (have t1 := CN.c1); (have t2 := CN.c2); (have t3 := CN.c3); clear CN))
  clear t0 t1 t2 t3 H49
  have HB2 := Hid.mk B2
  clear B2
  go_loopw [35] (fun i wr => ∃ k : Nat, k ≤ n ∧ i = .int .i64 k ∧ Hid (∀ x, x < k → okR s y l x (f x) = true) ∧ Hid (Below w2.heap.size w2 wr)) (fun i _ => n - (intOf i).toNat)
  case atStart => exact ⟨0, Nat.zero_le _, rfl, fun x hx => by omega, Below.refl _ _⟩
  case round =>
    obtain ⟨k, hk, rfl, HK, HBB⟩ := hrel
    have HB : Hid (Below (w.alloc (.cells #[.int .i64 s, .int .i64 y, .int .i64 l, .slice ad n cp] 43)).heap.size (w.alloc (.cells #[.int .i64 s, .int .i64 y, .int .i64 l, .slice ad n cp] 43)) wr) := HB2.out.trans (HBB.out.mono HB2.out.size)
    by_cases hkn : k < n
    case neg =>
      obtain rfl : n = k := by omega
      have i1 : ¬ (n : Int) < (n : Int) := by omega
      have HT := Hid.mk (HGT.out HK.out)
      go_wp2
      go_ret
      exact ⟨by rw [HT.out]; rfl, HBW.out _ HB.out⟩
    have i1 : (k : Int) < (n : Int) := by omega
    have i0 : (0 : Int) ≤ (k : Int) := by omega
    have k5 : k < 5 := by have := lcN_le s y; have := HN2.out; omega
    have CN := HCW.out _ HB.out
    have t0 := CN.c0
    have t1 := CN.c1
    have t2 := CN.c2
    have t3 := CN.c3
    obtain ⟨q, o, u, had, hc, ra, rc, rfl, _, _⟩ : ∃ q o u, ad = some ⟨q, o, none⟩ ∧ wr.cell? ⟨q, o + k, none⟩ = some u ∧ BRow wr u (f k) := by
      obtain ⟨ad', cp', e1, e2⟩ := HR.out _ HB.out
      injection e1 with e1
      subst e1
      exact e2 k hkn
    subst had
    have a0 := sdI_pos s k
    have a1 := sdI_le gs1 k k5
    have b0 := sdI_pos y k
    have b1 := sdI_le gs2 k k5
    have hlk := HFL.out k hkn
    have HF2 := Hid.mk (HGF.out k hkn)
    have HK2 : Hid (okR s y l k (f k) = true → ∀ x, x < k + 1 → okR s y l x (f x) = true) := fun h x hx => by
      by_cases e : x = k
      · subst e; exact h
      · exact HK.out x (by omega)
    have HOK : Hid (okR s y l k (f k) = decide (((f k).length : Int) = sdI s k * sdI y k * (szF l : Int))) := rfl
    generalize okR s y l k (f k) = SB at HF2 HK2 HOK
    obtain ⟨d1, d2, d3⟩ := HSD.out k hkn
    have d1 := cell_nx d1 HBB.out
    have d2 := cell_nx d2 HBB.out
    have d3 := cell_nx d3 HBB.out
    have ps := prod_small a0 a1 b0 b1 z1
    generalize sdI s k = A at a0 a1 d2 HOK ps
    generalize sdI y k = B at b0 b1 d3 HOK ps
    generalize szF l = Z at *
    generalize (f k).length = lk at hc hlk HOK
    have e1 : IntKind.i64.wrap (A * B) = A * B := (IntKind.wrap_i64 _).trans (by omega)
    have e2 : IntKind.i64.wrap (A * B * (Z : Int)) = A * B * (Z : Int) := (IntKind.wrap_i64 _).trans (by omega)
    have HE := HOK.out
    by_cases hr : (lk : Int) = A * B * (Z : Int)
    · rw [decide_eq_true hr] at HE
      have HK3 := Hid.mk (HK2.out HE)
      have hb : ((lk : Int) != A * B * (Z : Int)) = false := by simp [hr]
      have HR3 := Hid.mk hr
      clear HE hr HF2 HK2 HOK CN HK ps
      go_wp2
      go_quiet (first | (go_at_call 44; exact Calls.quiet_of_same (HZ.out _)))
      go_wp2
      go_roundw
      case rel => exact ⟨k + 1, by omega, by go_num, HK3, below_drewN HBB.out _⟩
      case measure => simp [intOf]; omega
    · rw [decide_eq_false hr] at HE
      have HF3 := Hid.mk (HF2.out HE)
      have hb : ((lk : Int) != A * B * (Z : Int)) = true := by simp [hr]
      have HR3 := Hid.mk hr
      clear HE hr HF2 HK2 HOK CN HK ps
      go_wp2
      go_quiet (first | (go_at_call 44; exact Calls.quiet_of_same (HZ.out _)))
      go_wp2
      go_ret
      exact ⟨by rw [HF3.out]; rfl, HBW.out _ (below_drewN HB.out _)⟩
set_option maxRecDepth 100000 in
set_option maxHeartbeats 1000000 in
theorem pgoodT (s y l : Int) (v : Value) (n : Nat) (f : Nat → List Int) (w : World) (R : BRows w v n f) (hn : n ≤ 1048576) (hfl : ∀ x, x < n → (f x).length ≤ 1048576) : Calls Try.prog 26 #[.agg #[.int .i64 s, .int .i64 y, .int .i64 l, v]] w fun e w' => e = .returned (.bool (gtB s y l n f)) ∧ Below w.heap.size w w' := by
  have HGB : Hid (gtB s y l n f = (gsB s && (gsB y && (fmB l && (decide (n = lcN s y) && allN (fun k => okR s y l k (f k)) n))))) := rfl
  generalize gtB s y l n f = GB at HGB ⊢
  obtain ⟨W, hW⟩ : ∃ W, W = w.alloc (.cells #[.int .i64 s, .int .i64 y, .int .i64 l, v] 43) := ⟨_, rfl⟩
  have BW : Below w.heap.size w W := by rw [hW]; exact alloc_b
  have HBW : Hid (∀ w', Below W.heap.size W w' → Below w.heap.size w w') := fun w' b => BW.trans (b.mono BW.size)
  have CW : C4 W w.heap.size (.int .i64 s) (.int .i64 y) (.int .i64 l) v := by rw [hW]; exact C4.new _ _ _ _ _ _
  have HCW : Hid (∀ w', Below W.heap.size W w' → C4 w' w.heap.size (.int .i64 s) (.int .i64 y) (.int .i64 l) v) := fun w' b => CW.next b
  have HR : Hid (∀ w', Below W.heap.size W w' → BRows w' v n f) := fun w' b => (R.next BW).next b
  have HFL := Hid.mk hfl
  obtain ⟨ad, cp, rfl, _⟩ := R
  clear BW CW hfl
  subst hW
  have HFO : Hid (∀ w, Calls Try.prog 43 #[.int .i64 l] w fun e w' => e = .returned (.tuple #[fmV l, .bool (fmB l)]) ∧ w' = w) := fun w => fmt43 l w
  have CN := HCW.out _ (Below.refl _ _)
  have t0 := CN.c0
  have t1 := CN.c1
  have t2 := CN.c2
  have t3 := CN.c3
  clear CN
  cases hf : fmB l
  case false =>
    have HGF : Hid (GB = false) := by show _ = _; rw [HGB.out, hf]; simp
    have HF := HFO
    rw [hf] at HF
    clear HGB HR hf HFO
    generalize fmV l = FV at HF
    go_enter Try.func26, Try.ntmps26
    go_wp2_with (first | (go_at_call 43; refine (HF.out _).mono ?_; rintro e w3 ⟨rfl, hw3⟩; subst w3))
    go_quiet (fail)
    go_wp2
    go_ret
    exact ⟨by rw [HGF.out]; rfl, HBW.out _ (below_drewN (Below.refl _ _) _)⟩
  obtain ⟨z0, z1⟩ := szF_pos hf
  have HSS0 : Hid (∀ w, Calls Try.prog 51 #[.int .i64 s, .int .i64 y] w fun e w' => e = .returned (.bool (gsB s && gsB y)) ∧ w' = w) := fun w => sides51 s y w
  have hl : l = 1 ∨ l = 2 ∨ l = 3 := by
    rcases fm_cases l with h | h | h | h
    · exact Or.inl h
    · exact Or.inr (Or.inl h)
    · exact Or.inr (Or.inr h)
    · rw [(fm_no h).2.1] at hf; cases hf
  rcases hl with rfl | rfl | rfl
  · have hm : ∀ w : World, (method 233 98 (Value.agg #[]) "loop.example/g00053/impl.size").run Try.prog w = .ok (106, .agg #[]) w := fun w => by kernel_rfl
    have HF : Hid (∀ w, Calls Try.prog 43 #[.int .i64 1] w fun e w' => e = .returned (.tuple #[.iface 98 (.agg #[]), .bool true]) ∧ w' = w) := fun w => HFO.out w
    clear HFO
    cases hss : gsB s && gsB y
    case false =>
      have HGF : Hid (GB = false) := by show _ = _; rw [HGB.out, ← Bool.and_assoc, hss]; rfl
      have HSS := HSS0
      rw [hss] at HSS
      clear HGB HR hf hss HSS0
      go_enter Try.func26, Try.ntmps26
      go_wp2_with (first | (go_at_call 43; refine (HF.out _).mono ?_; rintro e w3 ⟨rfl, hw3⟩; subst w3))
      go_quiet (first | (go_at_call 51; exact Calls.quiet_of_same (HSS.out _)))
      go_wp2
      go_ret
      exact ⟨by rw [HGF.out]; rfl, HBW.out _ (below_drewN (Below.refl _ _) _)⟩
    have hs : gsB s = true := by simp only [Bool.and_eq_true] at hss; exact hss.1
    have hy : gsB y = true := by simp only [Bool.and_eq_true] at hss; exact hss.2
    have HSS := HSS0
    rw [hss] at HSS
    clear HSS0
    have gs1 := gsB_iff.1 hs
    have gs2 := gsB_iff.1 hy
    have HLC : Hid (∀ w, Calls Try.prog 52 #[.int .i64 s, .int .i64 y] w fun e w' => e = .returned (.int .i64 (lcN s y : Nat)) ∧ w' = w) := fun w => count52 s y w gs1 gs2
    have lc1 := lcN_le s y
    by_cases en : n = lcN s y
    case neg =>
      have HGF : Hid (GB = false) := by show _ = _; rw [HGB.out, decide_eq_false en]; simp
      have en2 : ((n : Int) != ((lcN s y : Nat) : Int)) = true := by simp; omega
      clear HGB HR hf hss hs hy
      generalize lcN s y = lc at HLC en2
      go_enter Try.func26, Try.ntmps26
      go_wp2_with (first | (go_at_call 43; refine (HF.out _).mono ?_; rintro e w3 ⟨rfl, hw3⟩; subst w3))
      go_quiet (first | (go_at_call 51; exact Calls.quiet_of_same (HSS.out _)) | (go_at_call 52; exact Calls.quiet_of_same (HLC.out _)))
      go_wp2
      go_ret
      exact ⟨by rw [HGF.out]; rfl, HBW.out _ (below_drewN (Below.refl _ _) _)⟩
    have HG : Hid (GB = allN (fun k => okR s y 1 k (f k)) n) := by show _ = _; rw [HGB.out, hs, hy, hf, decide_eq_true en]; rfl
    have HGF : Hid (∀ x, x < n → okR s y 1 x (f x) = false → GB = false) := fun x hx h => by rw [HG.out]; exact allN_no hx h
    have HGT : Hid ((∀ x, x < n → okR s y 1 x (f x) = true) → GB = true) := fun h => by rw [HG.out]; exact (allN_iff _ n).2 h
    have HN2 : Hid (n ≤ lcN s y) := by show _ ≤ _; omega
    have en2 : ((n : Int) != ((lcN s y : Nat) : Int)) = false := by simp; omega
    rw [← en] at HLC en2
    clear HG HGB hs hy hf hss en
    go_enter Try.func26, Try.ntmps26
    go_wp2_with (first | (go_at_call 43; refine (HF.out _).mono ?_; rintro e w3 ⟨rfl, hw3⟩; subst w3))
    go_quiet (first | (go_at_call 51; exact Calls.quiet_of_same (HSS.out _)) | (go_at_call 52; exact Calls.quiet_of_same (HLC.out _)))
    have t3 := cell_nx t3 (below_drewN (Below.refl _ _) nq)
    go_wp2
    have HBQ : Hid (Below (w.alloc (.cells #[.int .i64 s, .int .i64 y, .int .i64 1, .slice ad n cp] 43)).heap.size (w.alloc (.cells #[.int .i64 s, .int .i64 y, .int .i64 1, .slice ad n cp] 43)) ((w.alloc (.cells #[.int .i64 s, .int .i64 y, .int .i64 1, .slice ad n cp] 43)).drewN nq)) := below_drewN (Below.refl _ _) _
    clear t0 t1 t2 t3
    go_loopw [37] (fun i wr => ∃ k : Nat, k ≤ n ∧ i = .int .i64 k ∧ Hid (∀ x, x < k → okR s y 1 x (f x) = true) ∧ Hid (Below (w.alloc (.cells #[.int .i64 s, .int .i64 y, .int .i64 1, .slice ad n cp] 43)).heap.size (w.alloc (.cells #[.int .i64 s, .int .i64 y, .int .i64 1, .slice ad n cp] 43)) wr)) (fun i _ => n - (intOf i).toNat)
    case atStart => exact ⟨0, Nat.zero_le _, rfl, fun x hx => by omega, HBQ⟩
    case round =>
      obtain ⟨k, hk, rfl, HK, HB⟩ := hrel
      clear HBQ
      by_cases hkn : k < n
      case neg =>
        obtain rfl : n = k := by omega
        have i1 : ¬ (n : Int) < (n : Int) := by omega
        have HT := Hid.mk (HGT.out HK.out)
        go_wp2
        go_ret
        exact ⟨by rw [HT.out]; rfl, HBW.out _ HB.out⟩
      have i1 : (k : Int) < (n : Int) := by omega
      have i0 : (0 : Int) ≤ (k : Int) := by omega
      have k5 : k < 5 := by have := lcN_le s y; have := HN2.out; omega
      have CN := HCW.out _ HB.out
      have t0 := CN.c0
      have t1 := CN.c1
      have t2 := CN.c2
      have t3 := CN.c3
      obtain ⟨q, o, u, had, hc, ra, rc, rfl, _, _⟩ : ∃ q o u, ad = some ⟨q, o, none⟩ ∧ wr.cell? ⟨q, o + k, none⟩ = some u ∧ BRow wr u (f k) := by
        obtain ⟨ad', cp', e1, e2⟩ := HR.out _ HB.out
        injection e1 with e1
        subst e1
        exact e2 k hkn
      subst had
      have a0 := sdI_pos s k
      have a1 := sdI_le gs1 k k5
      have b0 := sdI_pos y k
      have b1 := sdI_le gs2 k k5
      have hlk := HFL.out k hkn
      have HF2 := Hid.mk (HGF.out k hkn)
      have HK2 : Hid (okR s y 1 k (f k) = true → ∀ x, x < k + 1 → okR s y 1 x (f x) = true) := fun h x hx => by
        by_cases e : x = k
        · subst e; exact h
        · exact HK.out x (by omega)
      have HOK : Hid (okR s y 1 k (f k) = decide (((f k).length : Int) = sdI s k * sdI y k * (szF 1 : Int))) := rfl
      generalize okR s y 1 k (f k) = SB at HF2 HK2 HOK
      have HA : Hid (∀ w, Calls Try.prog 53 #[.int .i64 s, .int .i64 (k : Int)] w fun e w' => e = .returned (.int .i64 (sdI s k)) ∧ w' = w) := fun w => sideat53 s k w gs1 k5
      have HBB : Hid (∀ w, Calls Try.prog 53 #[.int .i64 y, .int .i64 (k : Int)] w fun e w' => e = .returned (.int .i64 (sdI y k)) ∧ w' = w) := fun w => sideat53 y k w gs2 k5
      have ps := prod_small a0 a1 b0 b1 z1
      rw [show szF 1 = 1 from rfl] at HOK ps
      generalize sdI s k = A at a0 a1 HOK ps HA
      generalize sdI y k = B at b0 b1 HOK ps HBB
      generalize (f k).length = lk at hc hlk HOK
      have ec : A * B * ((1 : Nat) : Int) = A * B := by simp
      rw [ec] at HOK ps
      have e1 : IntKind.i64.wrap (A) = A := (IntKind.wrap_i64 _).trans (by omega)
      have e2 : IntKind.i64.wrap (A * B) = A * B := (IntKind.wrap_i64 _).trans (by omega)
      have HE := HOK.out
      by_cases hr : (lk : Int) = A * B
      · rw [decide_eq_true hr] at HE
        have HK3 := Hid.mk (HK2.out HE)
        have hb : ((lk : Int) != A * B) = false := by simpa using hr
        have HR3 := Hid.mk hr
        clear HE hr HF2 HK2 HOK CN HK ps ec
        go_wp2
        generalize hWW : wr.drew = WX
        have t0 := cell_nx t0 (below_drew (Below.refl _ _))
        have t1 := cell_nx t1 (below_drew (Below.refl _ _))
        have HB := Hid.mk (below_drew HB.out)
        rw [hWW] at t0 t1 HB
        refine wp_region_held_drew (S := fun v => Below WX.heap.size WX v) (by kernel_rfl) (by rw [hWW]; exact Below.refl _ _) (fun hH => ?_)
        rw [hWW] at hH ⊢
        clear hWW
        refine wpAnyH_take (i := 0) (oi := { dst := some 42, op := Op.move (Operand.tmp 6), type := 28, pos := "l16_texture.go:118", after := #[], guard := none }) (v := .slice ra lk rc) rfl (by kernel_rfl) (by kernel_rfl) (by kernel_rfl) (fun _ _ _ h => h) (Or.inl ⟨by rfl, fun w0 hSw => by (go_simp)⟩) hH ?_
        simp only [Act.put, List.setIfInBounds_toArray, List.set_cons_zero, List.set_cons_succ]
        refine wpAnyH_take (i := 1) (oi := { dst := some 43, op := Op.call { callee := Callee.builtin Builtin.len, args := #[Operand.tmp 42], argTypes := #[28] }, type := 3, pos := "l16_texture.go:118", after := #[{ on := 0, ground := Ground.data }], guard := none }) (v := .int .i64 (lk : Int)) rfl (by kernel_rfl) (by kernel_rfl) (by kernel_rfl) (fun _ _ _ h => h) (Or.inl ⟨by rfl, fun w0 hSw => by (go_simp)⟩) hH ?_
        simp only [Act.put, List.setIfInBounds_toArray, List.set_cons_zero, List.set_cons_succ]
        refine wpAnyH_take (i := 2) (oi := { dst := some 44, op := Op.move (Operand.tmp 3), type := 62, pos := "l16_texture.go:118", after := #[], guard := none }) (v := .iface 98 (.agg #[])) rfl (by kernel_rfl) (by kernel_rfl) (by kernel_rfl) (fun _ _ _ h => h) (Or.inl ⟨by rfl, fun w0 hSw => by (go_simp)⟩) hH ?_
        simp only [Act.put, List.setIfInBounds_toArray, List.set_cons_zero, List.set_cons_succ]
        refine wpAnyH_take (i := 4) (oi := { dst := some 46, op := Op.fieldAddr 43 (Operand.tmp 1) 0, type := 0, pos := "l16_texture.go:118", after := #[], guard := none }) (v := .pointer (some ⟨w.heap.size, 0, none⟩)) rfl (by kernel_rfl) (by kernel_rfl) (by kernel_rfl) (fun _ _ _ h => h) (Or.inl ⟨by rfl, fun w0 hSw => by (go_simp)⟩) hH ?_
        simp only [Act.put, List.setIfInBounds_toArray, List.set_cons_zero, List.set_cons_succ]
        refine wpAnyH_take (i := 5) (oi := { dst := some 47, op := Op.load 3 (Operand.tmp 46), type := 3, pos := "l16_texture.go:118", after := #[{ on := 4, ground := Ground.data }], guard := none }) (v := .int .i64 s) rfl (by kernel_rfl) (by kernel_rfl) (by kernel_rfl) (fun _ _ _ h => h) (Or.inl ⟨by rfl, fun w0 hSw => by ((have e9 := cell_nx t0 hSw); go_simp)⟩) hH ?_
        simp only [Act.put, List.setIfInBounds_toArray, List.set_cons_zero, List.set_cons_succ]
        refine wpAnyH_take (i := 6) (oi := { dst := some 48, op := Op.move (Operand.tmp 5), type := 3, pos := "l16_texture.go:118", after := #[], guard := none }) (v := .int .i64 (k : Int)) rfl (by kernel_rfl) (by kernel_rfl) (by kernel_rfl) (fun _ _ _ h => h) (Or.inl ⟨by rfl, fun w0 hSw => by (go_simp)⟩) hH ?_
        simp only [Act.put, List.setIfInBounds_toArray, List.set_cons_zero, List.set_cons_succ]
        refine wpAnyH_take (i := 9) (oi := { dst := some 51, op := Op.fieldAddr 43 (Operand.tmp 1) 1, type := 0, pos := "l16_texture.go:118", after := #[], guard := none }) (v := .pointer (some ⟨w.heap.size, 1, none⟩)) rfl (by kernel_rfl) (by kernel_rfl) (by kernel_rfl) (fun _ _ _ h => h) (Or.inl ⟨by rfl, fun w0 hSw => by (go_simp)⟩) hH ?_
        simp only [Act.put, List.setIfInBounds_toArray, List.set_cons_zero, List.set_cons_succ]
        refine wpAnyH_take (i := 10) (oi := { dst := some 52, op := Op.load 3 (Operand.tmp 51), type := 3, pos := "l16_texture.go:118", after := #[{ on := 9, ground := Ground.data }], guard := none }) (v := .int .i64 y) rfl (by kernel_rfl) (by kernel_rfl) (by kernel_rfl) (fun _ _ _ h => h) (Or.inl ⟨by rfl, fun w0 hSw => by ((have e9 := cell_nx t1 hSw); go_simp)⟩) hH ?_
        simp only [Act.put, List.setIfInBounds_toArray, List.set_cons_zero, List.set_cons_succ]
        refine wpAnyH_take (i := 11) (oi := { dst := some 53, op := Op.move (Operand.tmp 5), type := 3, pos := "l16_texture.go:118", after := #[], guard := none }) (v := .int .i64 (k : Int)) rfl (by kernel_rfl) (by kernel_rfl) (by kernel_rfl) (fun _ _ _ h => h) (Or.inl ⟨by rfl, fun w0 hSw => by (go_simp)⟩) hH ?_
        simp only [Act.put, List.setIfInBounds_toArray, List.set_cons_zero, List.set_cons_succ]
        refine wpAnyH_ready (rs := [3]) (by kernel_rfl) (by simp) ?_
        refine (AllReadyH.cons (o := { dst := some 45, op := Op.call { callee := Callee.invoke (Operand.tmp 44) "loop.example/g00053/impl.size", args := #[], argTypes := #[] }, type := 3, pos := "l16_texture.go:118", after := #[{ on := 2, ground := Ground.data }], guard := none }) rfl (fun K hK => ?_) AllReadyH.nil)
        refine step_callC 106 #[.agg #[]] (fun z v w' => z = .int .i64 1 ∧ Below v.heap.size v w') (by rfl) (by go_simp) ((size_g _).mono fun e w' ⟨h1, h2⟩ => ⟨_, h1, rfl, h2⟩) ?_
        rintro z5 w5 ⟨rfl, B5⟩
        simp only [Act.put, List.setIfInBounds_toArray, List.set_cons_zero, List.set_cons_succ]
        refine hK.out _ _ (hH.trans (B5.mono hH.size)) (fun hH' => ?_)
        clear hK K
        replace hH := hH'
        clear hH' 
        refine wpAnyH_ready (rs := [7]) (by kernel_rfl) (by simp) ?_
        refine (AllReadyH.cons (o := { dst := some 49, op := Op.call { callee := Callee.value (Operand.func 53), args := #[Operand.tmp 47, Operand.tmp 48], argTypes := #[3, 3] }, type := 3, pos := "l16_texture.go:118", after := #[{ on := 5, ground := Ground.data }, { on := 6, ground := Ground.data }, { on := 3, ground := Ground.chain }], guard := none }) rfl (fun K hK => ?_) AllReadyH.nil)
        refine step_callC 53 #[.int .i64 s, .int .i64 (k : Int)] (fun z v w' => z = .int .i64 A ∧ w' = v) (by rfl) (by go_simp) ((HA.out _).mono fun e w' ⟨h1, h2⟩ => ⟨_, h1, rfl, h2⟩) ?_
        rintro z7 w7 ⟨rfl, hw7⟩
        subst w7
        simp only [Act.put, List.setIfInBounds_toArray, List.set_cons_zero, List.set_cons_succ]
        refine hK.out _ _ hH (fun hH' => ?_)
        clear hK K
        replace hH := hH'
        clear hH' 
        refine wpAnyH_take (i := 8) (oi := { dst := some 50, op := Op.binOp BinOp.mul 3 (Operand.tmp 45) (Operand.tmp 49) 3, type := 3, pos := "l16_texture.go:118", after := #[{ on := 3, ground := Ground.data }, { on := 7, ground := Ground.data }], guard := none }) (v := .int .i64 (A)) rfl (by kernel_rfl) (by kernel_rfl) (by kernel_rfl) (fun _ _ _ h => h) (Or.inl ⟨by rfl, fun w0 hSw => by (go_simp)⟩) hH ?_
        simp only [Act.put, List.setIfInBounds_toArray, List.set_cons_zero, List.set_cons_succ]
        refine wpAnyH_ready (rs := [12]) (by kernel_rfl) (by simp) ?_
        refine (AllReadyH.cons (o := { dst := some 54, op := Op.call { callee := Callee.value (Operand.func 53), args := #[Operand.tmp 52, Operand.tmp 53], argTypes := #[3, 3] }, type := 3, pos := "l16_texture.go:118", after := #[{ on := 10, ground := Ground.data }, { on := 11, ground := Ground.data }, { on := 7, ground := Ground.chain }], guard := none }) rfl (fun K hK => ?_) AllReadyH.nil)
        refine step_callC 53 #[.int .i64 y, .int .i64 (k : Int)] (fun z v w' => z = .int .i64 B ∧ w' = v) (by rfl) (by go_simp) ((HBB.out _).mono fun e w' ⟨h1, h2⟩ => ⟨_, h1, rfl, h2⟩) ?_
        rintro z8 w8 ⟨rfl, hw8⟩
        subst w8
        simp only [Act.put, List.setIfInBounds_toArray, List.set_cons_zero, List.set_cons_succ]
        refine hK.out _ _ hH (fun hH' => ?_)
        clear hK K
        replace hH := hH'
        clear hH' 
        refine wpAnyH_take (i := 13) (oi := { dst := some 55, op := Op.binOp BinOp.mul 3 (Operand.tmp 50) (Operand.tmp 54) 3, type := 3, pos := "l16_texture.go:118", after := #[{ on := 8, ground := Ground.data }, { on := 12, ground := Ground.data }], guard := none }) (v := .int .i64 (A * B)) rfl (by kernel_rfl) (by kernel_rfl) (by kernel_rfl) (fun _ _ _ h => h) (Or.inl ⟨by rfl, fun w0 hSw => by (go_simp)⟩) hH ?_
        simp only [Act.put, List.setIfInBounds_toArray, List.set_cons_zero, List.set_cons_succ]
        refine wpAnyH_take (i := 14) (oi := { dst := some 56, op := Op.binOp BinOp.neq 3 (Operand.tmp 43) (Operand.tmp 55) 3, type := 4, pos := "l16_texture.go:118", after := #[{ on := 1, ground := Ground.data }, { on := 13, ground := Ground.data }], guard := none }) (v := .bool false) rfl (by kernel_rfl) (by kernel_rfl) (by kernel_rfl) (fun _ _ _ h => h) (Or.inl ⟨by rfl, fun w0 hSw => by (go_simp)⟩) hH ?_
        simp only [Act.put, List.setIfInBounds_toArray, List.set_cons_zero, List.set_cons_succ]
        refine wpAnyH_done (by kernel_rfl) ?_ _
        go_wp2
        go_roundw
        case rel => exact ⟨k + 1, by omega, by go_num, HK3, HB.out.trans (hH.mono HB.out.size)⟩
        case measure => simp [intOf]; omega
      · rw [decide_eq_false hr] at HE
        have HF3 := Hid.mk (HF2.out HE)
        have hb : ((lk : Int) != A * B) = true := by simpa using hr
        have HR3 := Hid.mk hr
        clear HE hr HF2 HK2 HOK CN HK ps ec
        go_wp2
        generalize hWW : wr.drew = WX
        have t0 := cell_nx t0 (below_drew (Below.refl _ _))
        have t1 := cell_nx t1 (below_drew (Below.refl _ _))
        have HB := Hid.mk (below_drew HB.out)
        rw [hWW] at t0 t1 HB
        refine wp_region_held_drew (S := fun v => Below WX.heap.size WX v) (by kernel_rfl) (by rw [hWW]; exact Below.refl _ _) (fun hH => ?_)
        rw [hWW] at hH ⊢
        clear hWW
        refine wpAnyH_take (i := 0) (oi := { dst := some 42, op := Op.move (Operand.tmp 6), type := 28, pos := "l16_texture.go:118", after := #[], guard := none }) (v := .slice ra lk rc) rfl (by kernel_rfl) (by kernel_rfl) (by kernel_rfl) (fun _ _ _ h => h) (Or.inl ⟨by rfl, fun w0 hSw => by (go_simp)⟩) hH ?_
        simp only [Act.put, List.setIfInBounds_toArray, List.set_cons_zero, List.set_cons_succ]
        refine wpAnyH_take (i := 1) (oi := { dst := some 43, op := Op.call { callee := Callee.builtin Builtin.len, args := #[Operand.tmp 42], argTypes := #[28] }, type := 3, pos := "l16_texture.go:118", after := #[{ on := 0, ground := Ground.data }], guard := none }) (v := .int .i64 (lk : Int)) rfl (by kernel_rfl) (by kernel_rfl) (by kernel_rfl) (fun _ _ _ h => h) (Or.inl ⟨by rfl, fun w0 hSw => by (go_simp)⟩) hH ?_
        simp only [Act.put, List.setIfInBounds_toArray, List.set_cons_zero, List.set_cons_succ]
        refine wpAnyH_take (i := 2) (oi := { dst := some 44, op := Op.move (Operand.tmp 3), type := 62, pos := "l16_texture.go:118", after := #[], guard := none }) (v := .iface 98 (.agg #[])) rfl (by kernel_rfl) (by kernel_rfl) (by kernel_rfl) (fun _ _ _ h => h) (Or.inl ⟨by rfl, fun w0 hSw => by (go_simp)⟩) hH ?_
        simp only [Act.put, List.setIfInBounds_toArray, List.set_cons_zero, List.set_cons_succ]
        refine wpAnyH_take (i := 4) (oi := { dst := some 46, op := Op.fieldAddr 43 (Operand.tmp 1) 0, type := 0, pos := "l16_texture.go:118", after := #[], guard := none }) (v := .pointer (some ⟨w.heap.size, 0, none⟩)) rfl (by kernel_rfl) (by kernel_rfl) (by kernel_rfl) (fun _ _ _ h => h) (Or.inl ⟨by rfl, fun w0 hSw => by (go_simp)⟩) hH ?_
        simp only [Act.put, List.setIfInBounds_toArray, List.set_cons_zero, List.set_cons_succ]
        refine wpAnyH_take (i := 5) (oi := { dst := some 47, op := Op.load 3 (Operand.tmp 46), type := 3, pos := "l16_texture.go:118", after := #[{ on := 4, ground := Ground.data }], guard := none }) (v := .int .i64 s) rfl (by kernel_rfl) (by kernel_rfl) (by kernel_rfl) (fun _ _ _ h => h) (Or.inl ⟨by rfl, fun w0 hSw => by ((have e9 := cell_nx t0 hSw); go_simp)⟩) hH ?_
        simp only [Act.put, List.setIfInBounds_toArray, List.set_cons_zero, List.set_cons_succ]
        refine wpAnyH_take (i := 6) (oi := { dst := some 48, op := Op.move (Operand.tmp 5), type := 3, pos := "l16_texture.go:118", after := #[], guard := none }) (v := .int .i64 (k : Int)) rfl (by kernel_rfl) (by kernel_rfl) (by kernel_rfl) (fun _ _ _ h => h) (Or.inl ⟨by rfl, fun w0 hSw => by (go_simp)⟩) hH ?_
        simp only [Act.put, List.setIfInBounds_toArray, List.set_cons_zero, List.set_cons_succ]
        refine wpAnyH_take (i := 9) (oi := { dst := some 51, op := Op.fieldAddr 43 (Operand.tmp 1) 1, type := 0, pos := "l16_texture.go:118", after := #[], guard := none }) (v := .pointer (some ⟨w.heap.size, 1, none⟩)) rfl (by kernel_rfl) (by kernel_rfl) (by kernel_rfl) (fun _ _ _ h => h) (Or.inl ⟨by rfl, fun w0 hSw => by (go_simp)⟩) hH ?_
        simp only [Act.put, List.setIfInBounds_toArray, List.set_cons_zero, List.set_cons_succ]
        refine wpAnyH_take (i := 10) (oi := { dst := some 52, op := Op.load 3 (Operand.tmp 51), type := 3, pos := "l16_texture.go:118", after := #[{ on := 9, ground := Ground.data }], guard := none }) (v := .int .i64 y) rfl (by kernel_rfl) (by kernel_rfl) (by kernel_rfl) (fun _ _ _ h => h) (Or.inl ⟨by rfl, fun w0 hSw => by ((have e9 := cell_nx t1 hSw); go_simp)⟩) hH ?_
        simp only [Act.put, List.setIfInBounds_toArray, List.set_cons_zero, List.set_cons_succ]
        refine wpAnyH_take (i := 11) (oi := { dst := some 53, op := Op.move (Operand.tmp 5), type := 3, pos := "l16_texture.go:118", after := #[], guard := none }) (v := .int .i64 (k : Int)) rfl (by kernel_rfl) (by kernel_rfl) (by kernel_rfl) (fun _ _ _ h => h) (Or.inl ⟨by rfl, fun w0 hSw => by (go_simp)⟩) hH ?_
        simp only [Act.put, List.setIfInBounds_toArray, List.set_cons_zero, List.set_cons_succ]
        refine wpAnyH_ready (rs := [3]) (by kernel_rfl) (by simp) ?_
        refine (AllReadyH.cons (o := { dst := some 45, op := Op.call { callee := Callee.invoke (Operand.tmp 44) "loop.example/g00053/impl.size", args := #[], argTypes := #[] }, type := 3, pos := "l16_texture.go:118", after := #[{ on := 2, ground := Ground.data }], guard := none }) rfl (fun K hK => ?_) AllReadyH.nil)
        refine step_callC 106 #[.agg #[]] (fun z v w' => z = .int .i64 1 ∧ Below v.heap.size v w') (by rfl) (by go_simp) ((size_g _).mono fun e w' ⟨h1, h2⟩ => ⟨_, h1, rfl, h2⟩) ?_
        rintro z5 w5 ⟨rfl, B5⟩
        simp only [Act.put, List.setIfInBounds_toArray, List.set_cons_zero, List.set_cons_succ]
        refine hK.out _ _ (hH.trans (B5.mono hH.size)) (fun hH' => ?_)
        clear hK K
        replace hH := hH'
        clear hH' 
        refine wpAnyH_ready (rs := [7]) (by kernel_rfl) (by simp) ?_
        refine (AllReadyH.cons (o := { dst := some 49, op := Op.call { callee := Callee.value (Operand.func 53), args := #[Operand.tmp 47, Operand.tmp 48], argTypes := #[3, 3] }, type := 3, pos := "l16_texture.go:118", after := #[{ on := 5, ground := Ground.data }, { on := 6, ground := Ground.data }, { on := 3, ground := Ground.chain }], guard := none }) rfl (fun K hK => ?_) AllReadyH.nil)
        refine step_callC 53 #[.int .i64 s, .int .i64 (k : Int)] (fun z v w' => z = .int .i64 A ∧ w' = v) (by rfl) (by go_simp) ((HA.out _).mono fun e w' ⟨h1, h2⟩ => ⟨_, h1, rfl, h2⟩) ?_
        rintro z7 w7 ⟨rfl, hw7⟩
        subst w7
        simp only [Act.put, List.setIfInBounds_toArray, List.set_cons_zero, List.set_cons_succ]
        refine hK.out _ _ hH (fun hH' => ?_)
        clear hK K
        replace hH := hH'
        clear hH' 
        refine wpAnyH_take (i := 8) (oi := { dst := some 50, op := Op.binOp BinOp.mul 3 (Operand.tmp 45) (Operand.tmp 49) 3, type := 3, pos := "l16_texture.go:118", after := #[{ on := 3, ground := Ground.data }, { on := 7, ground := Ground.data }], guard := none }) (v := .int .i64 (A)) rfl (by kernel_rfl) (by kernel_rfl) (by kernel_rfl) (fun _ _ _ h => h) (Or.inl ⟨by rfl, fun w0 hSw => by (go_simp)⟩) hH ?_
        simp only [Act.put, List.setIfInBounds_toArray, List.set_cons_zero, List.set_cons_succ]
        refine wpAnyH_ready (rs := [12]) (by kernel_rfl) (by simp) ?_
        refine (AllReadyH.cons (o := { dst := some 54, op := Op.call { callee := Callee.value (Operand.func 53), args := #[Operand.tmp 52, Operand.tmp 53], argTypes := #[3, 3] }, type := 3, pos := "l16_texture.go:118", after := #[{ on := 10, ground := Ground.data }, { on := 11, ground := Ground.data }, { on := 7, ground := Ground.chain }], guard := none }) rfl (fun K hK => ?_) AllReadyH.nil)
        refine step_callC 53 #[.int .i64 y, .int .i64 (k : Int)] (fun z v w' => z = .int .i64 B ∧ w' = v) (by rfl) (by go_simp) ((HBB.out _).mono fun e w' ⟨h1, h2⟩ => ⟨_, h1, rfl, h2⟩) ?_
        rintro z8 w8 ⟨rfl, hw8⟩
        subst w8
        simp only [Act.put, List.setIfInBounds_toArray, List.set_cons_zero, List.set_cons_succ]
        refine hK.out _ _ hH (fun hH' => ?_)
        clear hK K
        replace hH := hH'
        clear hH' 
        refine wpAnyH_take (i := 13) (oi := { dst := some 55, op := Op.binOp BinOp.mul 3 (Operand.tmp 50) (Operand.tmp 54) 3, type := 3, pos := "l16_texture.go:118", after := #[{ on := 8, ground := Ground.data }, { on := 12, ground := Ground.data }], guard := none }) (v := .int .i64 (A * B)) rfl (by kernel_rfl) (by kernel_rfl) (by kernel_rfl) (fun _ _ _ h => h) (Or.inl ⟨by rfl, fun w0 hSw => by (go_simp)⟩) hH ?_
        simp only [Act.put, List.setIfInBounds_toArray, List.set_cons_zero, List.set_cons_succ]
        refine wpAnyH_take (i := 14) (oi := { dst := some 56, op := Op.binOp BinOp.neq 3 (Operand.tmp 43) (Operand.tmp 55) 3, type := 4, pos := "l16_texture.go:118", after := #[{ on := 1, ground := Ground.data }, { on := 13, ground := Ground.data }], guard := none }) (v := .bool true) rfl (by kernel_rfl) (by kernel_rfl) (by kernel_rfl) (fun _ _ _ h => h) (Or.inl ⟨by rfl, fun w0 hSw => by (go_simp)⟩) hH ?_
        simp only [Act.put, List.setIfInBounds_toArray, List.set_cons_zero, List.set_cons_succ]
        refine wpAnyH_done (by kernel_rfl) ?_ _
        go_wp2
        go_ret
        exact ⟨by rw [HF3.out]; rfl, HBW.out _ (HB.out.trans (hH.mono HB.out.size))⟩
  · have hm : ∀ w : World, (method 233 99 (Value.agg #[]) "loop.example/g00053/impl.size").run Try.prog w = .ok (110, .agg #[]) w := fun w => by kernel_rfl
    have HF : Hid (∀ w, Calls Try.prog 43 #[.int .i64 2] w fun e w' => e = .returned (.tuple #[.iface 99 (.agg #[]), .bool true]) ∧ w' = w) := fun w => HFO.out w
    clear HFO
    cases hss : gsB s && gsB y
    case false =>
      have HGF : Hid (GB = false) := by show _ = _; rw [HGB.out, ← Bool.and_assoc, hss]; rfl
      have HSS := HSS0
      rw [hss] at HSS
      clear HGB HR hf hss HSS0
      go_enter Try.func26, Try.ntmps26
      go_wp2_with (first | (go_at_call 43; refine (HF.out _).mono ?_; rintro e w3 ⟨rfl, hw3⟩; subst w3))
      go_quiet (first | (go_at_call 51; exact Calls.quiet_of_same (HSS.out _)))
      go_wp2
      go_ret
      exact ⟨by rw [HGF.out]; rfl, HBW.out _ (below_drewN (Below.refl _ _) _)⟩
    have hs : gsB s = true := by simp only [Bool.and_eq_true] at hss; exact hss.1
    have hy : gsB y = true := by simp only [Bool.and_eq_true] at hss; exact hss.2
    have HSS := HSS0
    rw [hss] at HSS
    clear HSS0
    have gs1 := gsB_iff.1 hs
    have gs2 := gsB_iff.1 hy
    have HLC : Hid (∀ w, Calls Try.prog 52 #[.int .i64 s, .int .i64 y] w fun e w' => e = .returned (.int .i64 (lcN s y : Nat)) ∧ w' = w) := fun w => count52 s y w gs1 gs2
    have lc1 := lcN_le s y
    by_cases en : n = lcN s y
    case neg =>
      have HGF : Hid (GB = false) := by show _ = _; rw [HGB.out, decide_eq_false en]; simp
      have en2 : ((n : Int) != ((lcN s y : Nat) : Int)) = true := by simp; omega
      clear HGB HR hf hss hs hy
      generalize lcN s y = lc at HLC en2
      go_enter Try.func26, Try.ntmps26
      go_wp2_with (first | (go_at_call 43; refine (HF.out _).mono ?_; rintro e w3 ⟨rfl, hw3⟩; subst w3))
      go_quiet (first | (go_at_call 51; exact Calls.quiet_of_same (HSS.out _)) | (go_at_call 52; exact Calls.quiet_of_same (HLC.out _)))
      go_wp2
      go_ret
      exact ⟨by rw [HGF.out]; rfl, HBW.out _ (below_drewN (Below.refl _ _) _)⟩
    have HG : Hid (GB = allN (fun k => okR s y 2 k (f k)) n) := by show _ = _; rw [HGB.out, hs, hy, hf, decide_eq_true en]; rfl
    have HGF : Hid (∀ x, x < n → okR s y 2 x (f x) = false → GB = false) := fun x hx h => by rw [HG.out]; exact allN_no hx h
    have HGT : Hid ((∀ x, x < n → okR s y 2 x (f x) = true) → GB = true) := fun h => by rw [HG.out]; exact (allN_iff _ n).2 h
    have HN2 : Hid (n ≤ lcN s y) := by show _ ≤ _; omega
    have en2 : ((n : Int) != ((lcN s y : Nat) : Int)) = false := by simp; omega
    rw [← en] at HLC en2
    clear HG HGB hs hy hf hss en
    go_enter Try.func26, Try.ntmps26
    go_wp2_with (first | (go_at_call 43; refine (HF.out _).mono ?_; rintro e w3 ⟨rfl, hw3⟩; subst w3))
    go_quiet (first | (go_at_call 51; exact Calls.quiet_of_same (HSS.out _)) | (go_at_call 52; exact Calls.quiet_of_same (HLC.out _)))
    have t3 := cell_nx t3 (below_drewN (Below.refl _ _) nq)
    go_wp2
    have HBQ : Hid (Below (w.alloc (.cells #[.int .i64 s, .int .i64 y, .int .i64 2, .slice ad n cp] 43)).heap.size (w.alloc (.cells #[.int .i64 s, .int .i64 y, .int .i64 2, .slice ad n cp] 43)) ((w.alloc (.cells #[.int .i64 s, .int .i64 y, .int .i64 2, .slice ad n cp] 43)).drewN nq)) := below_drewN (Below.refl _ _) _
    clear t0 t1 t2 t3
    go_loopw [37] (fun i wr => ∃ k : Nat, k ≤ n ∧ i = .int .i64 k ∧ Hid (∀ x, x < k → okR s y 2 x (f x) = true) ∧ Hid (Below (w.alloc (.cells #[.int .i64 s, .int .i64 y, .int .i64 2, .slice ad n cp] 43)).heap.size (w.alloc (.cells #[.int .i64 s, .int .i64 y, .int .i64 2, .slice ad n cp] 43)) wr)) (fun i _ => n - (intOf i).toNat)
    case atStart => exact ⟨0, Nat.zero_le _, rfl, fun x hx => by omega, HBQ⟩
    case round =>
      obtain ⟨k, hk, rfl, HK, HB⟩ := hrel
      clear HBQ
      by_cases hkn : k < n
      case neg =>
        obtain rfl : n = k := by omega
        have i1 : ¬ (n : Int) < (n : Int) := by omega
        have HT := Hid.mk (HGT.out HK.out)
        go_wp2
        go_ret
        exact ⟨by rw [HT.out]; rfl, HBW.out _ HB.out⟩
      have i1 : (k : Int) < (n : Int) := by omega
      have i0 : (0 : Int) ≤ (k : Int) := by omega
      have k5 : k < 5 := by have := lcN_le s y; have := HN2.out; omega
      have CN := HCW.out _ HB.out
      have t0 := CN.c0
      have t1 := CN.c1
      have t2 := CN.c2
      have t3 := CN.c3
      obtain ⟨q, o, u, had, hc, ra, rc, rfl, _, _⟩ : ∃ q o u, ad = some ⟨q, o, none⟩ ∧ wr.cell? ⟨q, o + k, none⟩ = some u ∧ BRow wr u (f k) := by
        obtain ⟨ad', cp', e1, e2⟩ := HR.out _ HB.out
        injection e1 with e1
        subst e1
        exact e2 k hkn
      subst had
      have a0 := sdI_pos s k
      have a1 := sdI_le gs1 k k5
      have b0 := sdI_pos y k
      have b1 := sdI_le gs2 k k5
      have hlk := HFL.out k hkn
      have HF2 := Hid.mk (HGF.out k hkn)
      have HK2 : Hid (okR s y 2 k (f k) = true → ∀ x, x < k + 1 → okR s y 2 x (f x) = true) := fun h x hx => by
        by_cases e : x = k
        · subst e; exact h
        · exact HK.out x (by omega)
      have HOK : Hid (okR s y 2 k (f k) = decide (((f k).length : Int) = sdI s k * sdI y k * (szF 2 : Int))) := rfl
      generalize okR s y 2 k (f k) = SB at HF2 HK2 HOK
      have HA : Hid (∀ w, Calls Try.prog 53 #[.int .i64 s, .int .i64 (k : Int)] w fun e w' => e = .returned (.int .i64 (sdI s k)) ∧ w' = w) := fun w => sideat53 s k w gs1 k5
      have HBB : Hid (∀ w, Calls Try.prog 53 #[.int .i64 y, .int .i64 (k : Int)] w fun e w' => e = .returned (.int .i64 (sdI y k)) ∧ w' = w) := fun w => sideat53 y k w gs2 k5
      have ps := prod_small a0 a1 b0 b1 z1
      rw [show szF 2 = 4 from rfl] at HOK ps
      generalize sdI s k = A at a0 a1 HOK ps HA
      generalize sdI y k = B at b0 b1 HOK ps HBB
      generalize (f k).length = lk at hc hlk HOK
      have ec : A * B * ((4 : Nat) : Int) = 4 * A * B := by rw [Int.mul_comm]; exact (Int.mul_assoc _ _ _).symm
      rw [ec] at HOK ps
      have e1 : IntKind.i64.wrap (4 * A) = 4 * A := (IntKind.wrap_i64 _).trans (by omega)
      have e2 : IntKind.i64.wrap (4 * A * B) = 4 * A * B := (IntKind.wrap_i64 _).trans (by omega)
      have HE := HOK.out
      by_cases hr : (lk : Int) = 4 * A * B
      · rw [decide_eq_true hr] at HE
        have HK3 := Hid.mk (HK2.out HE)
        have hb : ((lk : Int) != 4 * A * B) = false := by simpa using hr
        have HR3 := Hid.mk hr
        clear HE hr HF2 HK2 HOK CN HK ps ec
        go_wp2
        generalize hWW : wr.drew = WX
        have t0 := cell_nx t0 (below_drew (Below.refl _ _))
        have t1 := cell_nx t1 (below_drew (Below.refl _ _))
        have HB := Hid.mk (below_drew HB.out)
        rw [hWW] at t0 t1 HB
        refine wp_region_held_drew (S := fun v => Below WX.heap.size WX v) (by kernel_rfl) (by rw [hWW]; exact Below.refl _ _) (fun hH => ?_)
        rw [hWW] at hH ⊢
        clear hWW
        refine wpAnyH_take (i := 0) (oi := { dst := some 42, op := Op.move (Operand.tmp 6), type := 28, pos := "l16_texture.go:118", after := #[], guard := none }) (v := .slice ra lk rc) rfl (by kernel_rfl) (by kernel_rfl) (by kernel_rfl) (fun _ _ _ h => h) (Or.inl ⟨by rfl, fun w0 hSw => by (go_simp)⟩) hH ?_
        simp only [Act.put, List.setIfInBounds_toArray, List.set_cons_zero, List.set_cons_succ]
        refine wpAnyH_take (i := 1) (oi := { dst := some 43, op := Op.call { callee := Callee.builtin Builtin.len, args := #[Operand.tmp 42], argTypes := #[28] }, type := 3, pos := "l16_texture.go:118", after := #[{ on := 0, ground := Ground.data }], guard := none }) (v := .int .i64 (lk : Int)) rfl (by kernel_rfl) (by kernel_rfl) (by kernel_rfl) (fun _ _ _ h => h) (Or.inl ⟨by rfl, fun w0 hSw => by (go_simp)⟩) hH ?_
        simp only [Act.put, List.setIfInBounds_toArray, List.set_cons_zero, List.set_cons_succ]
        refine wpAnyH_take (i := 2) (oi := { dst := some 44, op := Op.move (Operand.tmp 3), type := 62, pos := "l16_texture.go:118", after := #[], guard := none }) (v := .iface 99 (.agg #[])) rfl (by kernel_rfl) (by kernel_rfl) (by kernel_rfl) (fun _ _ _ h => h) (Or.inl ⟨by rfl, fun w0 hSw => by (go_simp)⟩) hH ?_
        simp only [Act.put, List.setIfInBounds_toArray, List.set_cons_zero, List.set_cons_succ]
        refine wpAnyH_take (i := 4) (oi := { dst := some 46, op := Op.fieldAddr 43 (Operand.tmp 1) 0, type := 0, pos := "l16_texture.go:118", after := #[], guard := none }) (v := .pointer (some ⟨w.heap.size, 0, none⟩)) rfl (by kernel_rfl) (by kernel_rfl) (by kernel_rfl) (fun _ _ _ h => h) (Or.inl ⟨by rfl, fun w0 hSw => by (go_simp)⟩) hH ?_
        simp only [Act.put, List.setIfInBounds_toArray, List.set_cons_zero, List.set_cons_succ]
        refine wpAnyH_take (i := 5) (oi := { dst := some 47, op := Op.load 3 (Operand.tmp 46), type := 3, pos := "l16_texture.go:118", after := #[{ on := 4, ground := Ground.data }], guard := none }) (v := .int .i64 s) rfl (by kernel_rfl) (by kernel_rfl) (by kernel_rfl) (fun _ _ _ h => h) (Or.inl ⟨by rfl, fun w0 hSw => by ((have e9 := cell_nx t0 hSw); go_simp)⟩) hH ?_
        simp only [Act.put, List.setIfInBounds_toArray, List.set_cons_zero, List.set_cons_succ]
        refine wpAnyH_take (i := 6) (oi := { dst := some 48, op := Op.move (Operand.tmp 5), type := 3, pos := "l16_texture.go:118", after := #[], guard := none }) (v := .int .i64 (k : Int)) rfl (by kernel_rfl) (by kernel_rfl) (by kernel_rfl) (fun _ _ _ h => h) (Or.inl ⟨by rfl, fun w0 hSw => by (go_simp)⟩) hH ?_
        simp only [Act.put, List.setIfInBounds_toArray, List.set_cons_zero, List.set_cons_succ]
        refine wpAnyH_take (i := 9) (oi := { dst := some 51, op := Op.fieldAddr 43 (Operand.tmp 1) 1, type := 0, pos := "l16_texture.go:118", after := #[], guard := none }) (v := .pointer (some ⟨w.heap.size, 1, none⟩)) rfl (by kernel_rfl) (by kernel_rfl) (by kernel_rfl) (fun _ _ _ h => h) (Or.inl ⟨by rfl, fun w0 hSw => by (go_simp)⟩) hH ?_
        simp only [Act.put, List.setIfInBounds_toArray, List.set_cons_zero, List.set_cons_succ]
        refine wpAnyH_take (i := 10) (oi := { dst := some 52, op := Op.load 3 (Operand.tmp 51), type := 3, pos := "l16_texture.go:118", after := #[{ on := 9, ground := Ground.data }], guard := none }) (v := .int .i64 y) rfl (by kernel_rfl) (by kernel_rfl) (by kernel_rfl) (fun _ _ _ h => h) (Or.inl ⟨by rfl, fun w0 hSw => by ((have e9 := cell_nx t1 hSw); go_simp)⟩) hH ?_
        simp only [Act.put, List.setIfInBounds_toArray, List.set_cons_zero, List.set_cons_succ]
        refine wpAnyH_take (i := 11) (oi := { dst := some 53, op := Op.move (Operand.tmp 5), type := 3, pos := "l16_texture.go:118", after := #[], guard := none }) (v := .int .i64 (k : Int)) rfl (by kernel_rfl) (by kernel_rfl) (by kernel_rfl) (fun _ _ _ h => h) (Or.inl ⟨by rfl, fun w0 hSw => by (go_simp)⟩) hH ?_
        simp only [Act.put, List.setIfInBounds_toArray, List.set_cons_zero, List.set_cons_succ]
        refine wpAnyH_ready (rs := [3]) (by kernel_rfl) (by simp) ?_
        refine (AllReadyH.cons (o := { dst := some 45, op := Op.call { callee := Callee.invoke (Operand.tmp 44) "loop.example/g00053/impl.size", args := #[], argTypes := #[] }, type := 3, pos := "l16_texture.go:118", after := #[{ on := 2, ground := Ground.data }], guard := none }) rfl (fun K hK => ?_) AllReadyH.nil)
        refine step_callC 110 #[.agg #[]] (fun z v w' => z = .int .i64 4 ∧ Below v.heap.size v w') (by rfl) (by go_simp) ((size_f _).mono fun e w' ⟨h1, h2⟩ => ⟨_, h1, rfl, h2⟩) ?_
        rintro z5 w5 ⟨rfl, B5⟩
        simp only [Act.put, List.setIfInBounds_toArray, List.set_cons_zero, List.set_cons_succ]
        refine hK.out _ _ (hH.trans (B5.mono hH.size)) (fun hH' => ?_)
        clear hK K
        replace hH := hH'
        clear hH' 
        refine wpAnyH_ready (rs := [7]) (by kernel_rfl) (by simp) ?_
        refine (AllReadyH.cons (o := { dst := some 49, op := Op.call { callee := Callee.value (Operand.func 53), args := #[Operand.tmp 47, Operand.tmp 48], argTypes := #[3, 3] }, type := 3, pos := "l16_texture.go:118", after := #[{ on := 5, ground := Ground.data }, { on := 6, ground := Ground.data }, { on := 3, ground := Ground.chain }], guard := none }) rfl (fun K hK => ?_) AllReadyH.nil)
        refine step_callC 53 #[.int .i64 s, .int .i64 (k : Int)] (fun z v w' => z = .int .i64 A ∧ w' = v) (by rfl) (by go_simp) ((HA.out _).mono fun e w' ⟨h1, h2⟩ => ⟨_, h1, rfl, h2⟩) ?_
        rintro z7 w7 ⟨rfl, hw7⟩
        subst w7
        simp only [Act.put, List.setIfInBounds_toArray, List.set_cons_zero, List.set_cons_succ]
        refine hK.out _ _ hH (fun hH' => ?_)
        clear hK K
        replace hH := hH'
        clear hH' 
        refine wpAnyH_take (i := 8) (oi := { dst := some 50, op := Op.binOp BinOp.mul 3 (Operand.tmp 45) (Operand.tmp 49) 3, type := 3, pos := "l16_texture.go:118", after := #[{ on := 3, ground := Ground.data }, { on := 7, ground := Ground.data }], guard := none }) (v := .int .i64 (4 * A)) rfl (by kernel_rfl) (by kernel_rfl) (by kernel_rfl) (fun _ _ _ h => h) (Or.inl ⟨by rfl, fun w0 hSw => by (go_simp)⟩) hH ?_
        simp only [Act.put, List.setIfInBounds_toArray, List.set_cons_zero, List.set_cons_succ]
        refine wpAnyH_ready (rs := [12]) (by kernel_rfl) (by simp) ?_
        refine (AllReadyH.cons (o := { dst := some 54, op := Op.call { callee := Callee.value (Operand.func 53), args := #[Operand.tmp 52, Operand.tmp 53], argTypes := #[3, 3] }, type := 3, pos := "l16_texture.go:118", after := #[{ on := 10, ground := Ground.data }, { on := 11, ground := Ground.data }, { on := 7, ground := Ground.chain }], guard := none }) rfl (fun K hK => ?_) AllReadyH.nil)
        refine step_callC 53 #[.int .i64 y, .int .i64 (k : Int)] (fun z v w' => z = .int .i64 B ∧ w' = v) (by rfl) (by go_simp) ((HBB.out _).mono fun e w' ⟨h1, h2⟩ => ⟨_, h1, rfl, h2⟩) ?_
        rintro z8 w8 ⟨rfl, hw8⟩
        subst w8
        simp only [Act.put, List.setIfInBounds_toArray, List.set_cons_zero, List.set_cons_succ]
        refine hK.out _ _ hH (fun hH' => ?_)
        clear hK K
        replace hH := hH'
        clear hH' 
        refine wpAnyH_take (i := 13) (oi := { dst := some 55, op := Op.binOp BinOp.mul 3 (Operand.tmp 50) (Operand.tmp 54) 3, type := 3, pos := "l16_texture.go:118", after := #[{ on := 8, ground := Ground.data }, { on := 12, ground := Ground.data }], guard := none }) (v := .int .i64 (4 * A * B)) rfl (by kernel_rfl) (by kernel_rfl) (by kernel_rfl) (fun _ _ _ h => h) (Or.inl ⟨by rfl, fun w0 hSw => by (go_simp)⟩) hH ?_
        simp only [Act.put, List.setIfInBounds_toArray, List.set_cons_zero, List.set_cons_succ]
        refine wpAnyH_take (i := 14) (oi := { dst := some 56, op := Op.binOp BinOp.neq 3 (Operand.tmp 43) (Operand.tmp 55) 3, type := 4, pos := "l16_texture.go:118", after := #[{ on := 1, ground := Ground.data }, { on := 13, ground := Ground.data }], guard := none }) (v := .bool false) rfl (by kernel_rfl) (by kernel_rfl) (by kernel_rfl) (fun _ _ _ h => h) (Or.inl ⟨by rfl, fun w0 hSw => by (go_simp)⟩) hH ?_
        simp only [Act.put, List.setIfInBounds_toArray, List.set_cons_zero, List.set_cons_succ]
        refine wpAnyH_done (by kernel_rfl) ?_ _
        go_wp2
        go_roundw
        case rel => exact ⟨k + 1, by omega, by go_num, HK3, HB.out.trans (hH.mono HB.out.size)⟩
        case measure => simp [intOf]; omega
      · rw [decide_eq_false hr] at HE
        have HF3 := Hid.mk (HF2.out HE)
        have hb : ((lk : Int) != 4 * A * B) = true := by simpa using hr
        have HR3 := Hid.mk hr
        clear HE hr HF2 HK2 HOK CN HK ps ec
        go_wp2
        generalize hWW : wr.drew = WX
        have t0 := cell_nx t0 (below_drew (Below.refl _ _))
        have t1 := cell_nx t1 (below_drew (Below.refl _ _))
        have HB := Hid.mk (below_drew HB.out)
        rw [hWW] at t0 t1 HB
        refine wp_region_held_drew (S := fun v => Below WX.heap.size WX v) (by kernel_rfl) (by rw [hWW]; exact Below.refl _ _) (fun hH => ?_)
        rw [hWW] at hH ⊢
        clear hWW
        refine wpAnyH_take (i := 0) (oi := { dst := some 42, op := Op.move (Operand.tmp 6), type := 28, pos := "l16_texture.go:118", after := #[], guard := none }) (v := .slice ra lk rc) rfl (by kernel_rfl) (by kernel_rfl) (by kernel_rfl) (fun _ _ _ h => h) (Or.inl ⟨by rfl, fun w0 hSw => by (go_simp)⟩) hH ?_
        simp only [Act.put, List.setIfInBounds_toArray, List.set_cons_zero, List.set_cons_succ]
        refine wpAnyH_take (i := 1) (oi := { dst := some 43, op := Op.call { callee := Callee.builtin Builtin.len, args := #[Operand.tmp 42], argTypes := #[28] }, type := 3, pos := "l16_texture.go:118", after := #[{ on := 0, ground := Ground.data }], guard := none }) (v := .int .i64 (lk : Int)) rfl (by kernel_rfl) (by kernel_rfl) (by kernel_rfl) (fun _ _ _ h => h) (Or.inl ⟨by rfl, fun w0 hSw => by (go_simp)⟩) hH ?_
        simp only [Act.put, List.setIfInBounds_toArray, List.set_cons_zero, List.set_cons_succ]
        refine wpAnyH_take (i := 2) (oi := { dst := some 44, op := Op.move (Operand.tmp 3), type := 62, pos := "l16_texture.go:118", after := #[], guard := none }) (v := .iface 99 (.agg #[])) rfl (by kernel_rfl) (by kernel_rfl) (by kernel_rfl) (fun _ _ _ h => h) (Or.inl ⟨by rfl, fun w0 hSw => by (go_simp)⟩) hH ?_
        simp only [Act.put, List.setIfInBounds_toArray, List.set_cons_zero, List.set_cons_succ]
        refine wpAnyH_take (i := 4) (oi := { dst := some 46, op := Op.fieldAddr 43 (Operand.tmp 1) 0, type := 0, pos := "l16_texture.go:118", after := #[], guard := none }) (v := .pointer (some ⟨w.heap.size, 0, none⟩)) rfl (by kernel_rfl) (by kernel_rfl) (by kernel_rfl) (fun _ _ _ h => h) (Or.inl ⟨by rfl, fun w0 hSw => by (go_simp)⟩) hH ?_
        simp only [Act.put, List.setIfInBounds_toArray, List.set_cons_zero, List.set_cons_succ]
        refine wpAnyH_take (i := 5) (oi := { dst := some 47, op := Op.load 3 (Operand.tmp 46), type := 3, pos := "l16_texture.go:118", after := #[{ on := 4, ground := Ground.data }], guard := none }) (v := .int .i64 s) rfl (by kernel_rfl) (by kernel_rfl) (by kernel_rfl) (fun _ _ _ h => h) (Or.inl ⟨by rfl, fun w0 hSw => by ((have e9 := cell_nx t0 hSw); go_simp)⟩) hH ?_
        simp only [Act.put, List.setIfInBounds_toArray, List.set_cons_zero, List.set_cons_succ]
        refine wpAnyH_take (i := 6) (oi := { dst := some 48, op := Op.move (Operand.tmp 5), type := 3, pos := "l16_texture.go:118", after := #[], guard := none }) (v := .int .i64 (k : Int)) rfl (by kernel_rfl) (by kernel_rfl) (by kernel_rfl) (fun _ _ _ h => h) (Or.inl ⟨by rfl, fun w0 hSw => by (go_simp)⟩) hH ?_
        simp only [Act.put, List.setIfInBounds_toArray, List.set_cons_zero, List.set_cons_succ]
        refine wpAnyH_take (i := 9) (oi := { dst := some 51, op := Op.fieldAddr 43 (Operand.tmp 1) 1, type := 0, pos := "l16_texture.go:118", after := #[], guard := none }) (v := .pointer (some ⟨w.heap.size, 1, none⟩)) rfl (by kernel_rfl) (by kernel_rfl) (by kernel_rfl) (fun _ _ _ h => h) (Or.inl ⟨by rfl, fun w0 hSw => by (go_simp)⟩) hH ?_
        simp only [Act.put, List.setIfInBounds_toArray, List.set_cons_zero, List.set_cons_succ]
        refine wpAnyH_take (i := 10) (oi := { dst := some 52, op := Op.load 3 (Operand.tmp 51), type := 3, pos := "l16_texture.go:118", after := #[{ on := 9, ground := Ground.data }], guard := none }) (v := .int .i64 y) rfl (by kernel_rfl) (by kernel_rfl) (by kernel_rfl) (fun _ _ _ h => h) (Or.inl ⟨by rfl, fun w0 hSw => by ((have e9 := cell_nx t1 hSw); go_simp)⟩) hH ?_
        simp only [Act.put, List.setIfInBounds_toArray, List.set_cons_zero, List.set_cons_succ]
        refine wpAnyH_take (i := 11) (oi := { dst := some 53, op := Op.move (Operand.tmp 5), type := 3, pos := "l16_texture.go:118", after := #[], guard := none }) (v := .int .i64 (k : Int)) rfl (by kernel_rfl) (by kernel_rfl) (by kernel_rfl) (fun _ _ _ h => h) (Or.inl ⟨by rfl, fun w0 hSw => by (go_simp)⟩) hH ?_
        simp only [Act.put, List.setIfInBounds_toArray, List.set_cons_zero, List.set_cons_succ]
        refine wpAnyH_ready (rs := [3]) (by kernel_rfl) (by simp) ?_
        refine (AllReadyH.cons (o := { dst := some 45, op := Op.call { callee := Callee.invoke (Operand.tmp 44) "loop.example/g00053/impl.size", args := #[], argTypes := #[] }, type := 3, pos := "l16_texture.go:118", after := #[{ on := 2, ground := Ground.data }], guard := none }) rfl (fun K hK => ?_) AllReadyH.nil)
        refine step_callC 110 #[.agg #[]] (fun z v w' => z = .int .i64 4 ∧ Below v.heap.size v w') (by rfl) (by go_simp) ((size_f _).mono fun e w' ⟨h1, h2⟩ => ⟨_, h1, rfl, h2⟩) ?_
        rintro z5 w5 ⟨rfl, B5⟩
        simp only [Act.put, List.setIfInBounds_toArray, List.set_cons_zero, List.set_cons_succ]
        refine hK.out _ _ (hH.trans (B5.mono hH.size)) (fun hH' => ?_)
        clear hK K
        replace hH := hH'
        clear hH' 
        refine wpAnyH_ready (rs := [7]) (by kernel_rfl) (by simp) ?_
        refine (AllReadyH.cons (o := { dst := some 49, op := Op.call { callee := Callee.value (Operand.func 53), args := #[Operand.tmp 47, Operand.tmp 48], argTypes := #[3, 3] }, type := 3, pos := "l16_texture.go:118", after := #[{ on := 5, ground := Ground.data }, { on := 6, ground := Ground.data }, { on := 3, ground := Ground.chain }], guard := none }) rfl (fun K hK => ?_) AllReadyH.nil)
        refine step_callC 53 #[.int .i64 s, .int .i64 (k : Int)] (fun z v w' => z = .int .i64 A ∧ w' = v) (by rfl) (by go_simp) ((HA.out _).mono fun e w' ⟨h1, h2⟩ => ⟨_, h1, rfl, h2⟩) ?_
        rintro z7 w7 ⟨rfl, hw7⟩
        subst w7
        simp only [Act.put, List.setIfInBounds_toArray, List.set_cons_zero, List.set_cons_succ]
        refine hK.out _ _ hH (fun hH' => ?_)
        clear hK K
        replace hH := hH'
        clear hH' 
        refine wpAnyH_take (i := 8) (oi := { dst := some 50, op := Op.binOp BinOp.mul 3 (Operand.tmp 45) (Operand.tmp 49) 3, type := 3, pos := "l16_texture.go:118", after := #[{ on := 3, ground := Ground.data }, { on := 7, ground := Ground.data }], guard := none }) (v := .int .i64 (4 * A)) rfl (by kernel_rfl) (by kernel_rfl) (by kernel_rfl) (fun _ _ _ h => h) (Or.inl ⟨by rfl, fun w0 hSw => by (go_simp)⟩) hH ?_
        simp only [Act.put, List.setIfInBounds_toArray, List.set_cons_zero, List.set_cons_succ]
        refine wpAnyH_ready (rs := [12]) (by kernel_rfl) (by simp) ?_
        refine (AllReadyH.cons (o := { dst := some 54, op := Op.call { callee := Callee.value (Operand.func 53), args := #[Operand.tmp 52, Operand.tmp 53], argTypes := #[3, 3] }, type := 3, pos := "l16_texture.go:118", after := #[{ on := 10, ground := Ground.data }, { on := 11, ground := Ground.data }, { on := 7, ground := Ground.chain }], guard := none }) rfl (fun K hK => ?_) AllReadyH.nil)
        refine step_callC 53 #[.int .i64 y, .int .i64 (k : Int)] (fun z v w' => z = .int .i64 B ∧ w' = v) (by rfl) (by go_simp) ((HBB.out _).mono fun e w' ⟨h1, h2⟩ => ⟨_, h1, rfl, h2⟩) ?_
        rintro z8 w8 ⟨rfl, hw8⟩
        subst w8
        simp only [Act.put, List.setIfInBounds_toArray, List.set_cons_zero, List.set_cons_succ]
        refine hK.out _ _ hH (fun hH' => ?_)
        clear hK K
        replace hH := hH'
        clear hH' 
        refine wpAnyH_take (i := 13) (oi := { dst := some 55, op := Op.binOp BinOp.mul 3 (Operand.tmp 50) (Operand.tmp 54) 3, type := 3, pos := "l16_texture.go:118", after := #[{ on := 8, ground := Ground.data }, { on := 12, ground := Ground.data }], guard := none }) (v := .int .i64 (4 * A * B)) rfl (by kernel_rfl) (by kernel_rfl) (by kernel_rfl) (fun _ _ _ h => h) (Or.inl ⟨by rfl, fun w0 hSw => by (go_simp)⟩) hH ?_
        simp only [Act.put, List.setIfInBounds_toArray, List.set_cons_zero, List.set_cons_succ]
        refine wpAnyH_take (i := 14) (oi := { dst := some 56, op := Op.binOp BinOp.neq 3 (Operand.tmp 43) (Operand.tmp 55) 3, type := 4, pos := "l16_texture.go:118", after := #[{ on := 1, ground := Ground.data }, { on := 13, ground := Ground.data }], guard := none }) (v := .bool true) rfl (by kernel_rfl) (by kernel_rfl) (by kernel_rfl) (fun _ _ _ h => h) (Or.inl ⟨by rfl, fun w0 hSw => by (go_simp)⟩) hH ?_
        simp only [Act.put, List.setIfInBounds_toArray, List.set_cons_zero, List.set_cons_succ]
        refine wpAnyH_done (by kernel_rfl) ?_ _
        go_wp2
        go_ret
        exact ⟨by rw [HF3.out]; rfl, HBW.out _ (HB.out.trans (hH.mono HB.out.size))⟩
  · have hm : ∀ w : World, (method 233 100 (Value.agg #[]) "loop.example/g00053/impl.size").run Try.prog w = .ok (113, .agg #[]) w := fun w => by kernel_rfl
    have HF : Hid (∀ w, Calls Try.prog 43 #[.int .i64 3] w fun e w' => e = .returned (.tuple #[.iface 100 (.agg #[]), .bool true]) ∧ w' = w) := fun w => HFO.out w
    clear HFO
    cases hss : gsB s && gsB y
    case false =>
      have HGF : Hid (GB = false) := by show _ = _; rw [HGB.out, ← Bool.and_assoc, hss]; rfl
      have HSS := HSS0
      rw [hss] at HSS
      clear HGB HR hf hss HSS0
      go_enter Try.func26, Try.ntmps26
      go_wp2_with (first | (go_at_call 43; refine (HF.out _).mono ?_; rintro e w3 ⟨rfl, hw3⟩; subst w3))
      go_quiet (first | (go_at_call 51; exact Calls.quiet_of_same (HSS.out _)))
      go_wp2
      go_ret
      exact ⟨by rw [HGF.out]; rfl, HBW.out _ (below_drewN (Below.refl _ _) _)⟩
    have hs : gsB s = true := by simp only [Bool.and_eq_true] at hss; exact hss.1
    have hy : gsB y = true := by simp only [Bool.and_eq_true] at hss; exact hss.2
    have HSS := HSS0
    rw [hss] at HSS
    clear HSS0
    have gs1 := gsB_iff.1 hs
    have gs2 := gsB_iff.1 hy
    have HLC : Hid (∀ w, Calls Try.prog 52 #[.int .i64 s, .int .i64 y] w fun e w' => e = .returned (.int .i64 (lcN s y : Nat)) ∧ w' = w) := fun w => count52 s y w gs1 gs2
    have lc1 := lcN_le s y
    by_cases en : n = lcN s y
    case neg =>
      have HGF : Hid (GB = false) := by show _ = _; rw [HGB.out, decide_eq_false en]; simp
      have en2 : ((n : Int) != ((lcN s y : Nat) : Int)) = true := by simp; omega
      clear HGB HR hf hss hs hy
      generalize lcN s y = lc at HLC en2
      go_enter Try.func26, Try.ntmps26
      go_wp2_with (first | (go_at_call 43; refine (HF.out _).mono ?_; rintro e w3 ⟨rfl, hw3⟩; subst w3))
      go_quiet (first | (go_at_call 51; exact Calls.quiet_of_same (HSS.out _)) | (go_at_call 52; exact Calls.quiet_of_same (HLC.out _)))
      go_wp2
      go_ret
      exact ⟨by rw [HGF.out]; rfl, HBW.out _ (below_drewN (Below.refl _ _) _)⟩
    have HG : Hid (GB = allN (fun k => okR s y 3 k (f k)) n) := by show _ = _; rw [HGB.out, hs, hy, hf, decide_eq_true en]; rfl
    have HGF : Hid (∀ x, x < n → okR s y 3 x (f x) = false → GB = false) := fun x hx h => by rw [HG.out]; exact allN_no hx h
    have HGT : Hid ((∀ x, x < n → okR s y 3 x (f x) = true) → GB = true) := fun h => by rw [HG.out]; exact (allN_iff _ n).2 h
    have HN2 : Hid (n ≤ lcN s y) := by show _ ≤ _; omega
    have en2 : ((n : Int) != ((lcN s y : Nat) : Int)) = false := by simp; omega
    rw [← en] at HLC en2
    clear HG HGB hs hy hf hss en
    go_enter Try.func26, Try.ntmps26
    go_wp2_with (first | (go_at_call 43; refine (HF.out _).mono ?_; rintro e w3 ⟨rfl, hw3⟩; subst w3))
    go_quiet (first | (go_at_call 51; exact Calls.quiet_of_same (HSS.out _)) | (go_at_call 52; exact Calls.quiet_of_same (HLC.out _)))
    have t3 := cell_nx t3 (below_drewN (Below.refl _ _) nq)
    go_wp2
    have HBQ : Hid (Below (w.alloc (.cells #[.int .i64 s, .int .i64 y, .int .i64 3, .slice ad n cp] 43)).heap.size (w.alloc (.cells #[.int .i64 s, .int .i64 y, .int .i64 3, .slice ad n cp] 43)) ((w.alloc (.cells #[.int .i64 s, .int .i64 y, .int .i64 3, .slice ad n cp] 43)).drewN nq)) := below_drewN (Below.refl _ _) _
    clear t0 t1 t2 t3
    go_loopw [37] (fun i wr => ∃ k : Nat, k ≤ n ∧ i = .int .i64 k ∧ Hid (∀ x, x < k → okR s y 3 x (f x) = true) ∧ Hid (Below (w.alloc (.cells #[.int .i64 s, .int .i64 y, .int .i64 3, .slice ad n cp] 43)).heap.size (w.alloc (.cells #[.int .i64 s, .int .i64 y, .int .i64 3, .slice ad n cp] 43)) wr)) (fun i _ => n - (intOf i).toNat)
    case atStart => exact ⟨0, Nat.zero_le _, rfl, fun x hx => by omega, HBQ⟩
    case round =>
      obtain ⟨k, hk, rfl, HK, HB⟩ := hrel
      clear HBQ
      by_cases hkn : k < n
      case neg =>
        obtain rfl : n = k := by omega
        have i1 : ¬ (n : Int) < (n : Int) := by omega
        have HT := Hid.mk (HGT.out HK.out)
        go_wp2
        go_ret
        exact ⟨by rw [HT.out]; rfl, HBW.out _ HB.out⟩
      have i1 : (k : Int) < (n : Int) := by omega
      have i0 : (0 : Int) ≤ (k : Int) := by omega
      have k5 : k < 5 := by have := lcN_le s y; have := HN2.out; omega
      have CN := HCW.out _ HB.out
      have t0 := CN.c0
      have t1 := CN.c1
      have t2 := CN.c2
      have t3 := CN.c3
      obtain ⟨q, o, u, had, hc, ra, rc, rfl, _, _⟩ : ∃ q o u, ad = some ⟨q, o, none⟩ ∧ wr.cell? ⟨q, o + k, none⟩ = some u ∧ BRow wr u (f k) := by
        obtain ⟨ad', cp', e1, e2⟩ := HR.out _ HB.out
        injection e1 with e1
        subst e1
        exact e2 k hkn
      subst had
      have a0 := sdI_pos s k
      have a1 := sdI_le gs1 k k5
      have b0 := sdI_pos y k
      have b1 := sdI_le gs2 k k5
      have hlk := HFL.out k hkn
      have HF2 := Hid.mk (HGF.out k hkn)
      have HK2 : Hid (okR s y 3 k (f k) = true → ∀ x, x < k + 1 → okR s y 3 x (f x) = true) := fun h x hx => by
        by_cases e : x = k
        · subst e; exact h
        · exact HK.out x (by omega)
      have HOK : Hid (okR s y 3 k (f k) = decide (((f k).length : Int) = sdI s k * sdI y k * (szF 3 : Int))) := rfl
      generalize okR s y 3 k (f k) = SB at HF2 HK2 HOK
      have HA : Hid (∀ w, Calls Try.prog 53 #[.int .i64 s, .int .i64 (k : Int)] w fun e w' => e = .returned (.int .i64 (sdI s k)) ∧ w' = w) := fun w => sideat53 s k w gs1 k5
      have HBB : Hid (∀ w, Calls Try.prog 53 #[.int .i64 y, .int .i64 (k : Int)] w fun e w' => e = .returned (.int .i64 (sdI y k)) ∧ w' = w) := fun w => sideat53 y k w gs2 k5
      have ps := prod_small a0 a1 b0 b1 z1
      rw [show szF 3 = 2 from rfl] at HOK ps
      generalize sdI s k = A at a0 a1 HOK ps HA
      generalize sdI y k = B at b0 b1 HOK ps HBB
      generalize (f k).length = lk at hc hlk HOK
      have ec : A * B * ((2 : Nat) : Int) = 2 * A * B := by rw [Int.mul_comm]; exact (Int.mul_assoc _ _ _).symm
      rw [ec] at HOK ps
      have e1 : IntKind.i64.wrap (2 * A) = 2 * A := (IntKind.wrap_i64 _).trans (by omega)
      have e2 : IntKind.i64.wrap (2 * A * B) = 2 * A * B := (IntKind.wrap_i64 _).trans (by omega)
      have HE := HOK.out
      by_cases hr : (lk : Int) = 2 * A * B
      · rw [decide_eq_true hr] at HE
        have HK3 := Hid.mk (HK2.out HE)
        have hb : ((lk : Int) != 2 * A * B) = false := by simpa using hr
        have HR3 := Hid.mk hr
        clear HE hr HF2 HK2 HOK CN HK ps ec
        go_wp2
        generalize hWW : wr.drew = WX
        have t0 := cell_nx t0 (below_drew (Below.refl _ _))
        have t1 := cell_nx t1 (below_drew (Below.refl _ _))
        have HB := Hid.mk (below_drew HB.out)
        rw [hWW] at t0 t1 HB
        refine wp_region_held_drew (S := fun v => Below WX.heap.size WX v) (by kernel_rfl) (by rw [hWW]; exact Below.refl _ _) (fun hH => ?_)
        rw [hWW] at hH ⊢
        clear hWW
        refine wpAnyH_take (i := 0) (oi := { dst := some 42, op := Op.move (Operand.tmp 6), type := 28, pos := "l16_texture.go:118", after := #[], guard := none }) (v := .slice ra lk rc) rfl (by kernel_rfl) (by kernel_rfl) (by kernel_rfl) (fun _ _ _ h => h) (Or.inl ⟨by rfl, fun w0 hSw => by (go_simp)⟩) hH ?_
        simp only [Act.put, List.setIfInBounds_toArray, List.set_cons_zero, List.set_cons_succ]
        refine wpAnyH_take (i := 1) (oi := { dst := some 43, op := Op.call { callee := Callee.builtin Builtin.len, args := #[Operand.tmp 42], argTypes := #[28] }, type := 3, pos := "l16_texture.go:118", after := #[{ on := 0, ground := Ground.data }], guard := none }) (v := .int .i64 (lk : Int)) rfl (by kernel_rfl) (by kernel_rfl) (by kernel_rfl) (fun _ _ _ h => h) (Or.inl ⟨by rfl, fun w0 hSw => by (go_simp)⟩) hH ?_
        simp only [Act.put, List.setIfInBounds_toArray, List.set_cons_zero, List.set_cons_succ]
        refine wpAnyH_take (i := 2) (oi := { dst := some 44, op := Op.move (Operand.tmp 3), type := 62, pos := "l16_texture.go:118", after := #[], guard := none }) (v := .iface 100 (.agg #[])) rfl (by kernel_rfl) (by kernel_rfl) (by kernel_rfl) (fun _ _ _ h => h) (Or.inl ⟨by rfl, fun w0 hSw => by (go_simp)⟩) hH ?_
        simp only [Act.put, List.setIfInBounds_toArray, List.set_cons_zero, List.set_cons_succ]
        refine wpAnyH_take (i := 4) (oi := { dst := some 46, op := Op.fieldAddr 43 (Operand.tmp 1) 0, type := 0, pos := "l16_texture.go:118", after := #[], guard := none }) (v := .pointer (some ⟨w.heap.size, 0, none⟩)) rfl (by kernel_rfl) (by kernel_rfl) (by kernel_rfl) (fun _ _ _ h => h) (Or.inl ⟨by rfl, fun w0 hSw => by (go_simp)⟩) hH ?_
        simp only [Act.put, List.setIfInBounds_toArray, List.set_cons_zero, List.set_cons_succ]
        refine wpAnyH_take (i := 5) (oi := { dst := some 47, op := Op.load 3 (Operand.tmp 46), type := 3, pos := "l16_texture.go:118", after := #[{ on := 4, ground := Ground.data }], guard := none }) (v := .int .i64 s) rfl (by kernel_rfl) (by kernel_rfl) (by kernel_rfl) (fun _ _ _ h => h) (Or.inl ⟨by rfl, fun w0 hSw => by ((have e9 := cell_nx t0 hSw); go_simp)⟩) hH ?_
        simp only [Act.put, List.setIfInBounds_toArray, List.set_cons_zero, List.set_cons_succ]
        refine wpAnyH_take (i := 6) (oi := { dst := some 48, op := Op.move (Operand.tmp 5), type := 3, pos := "l16_texture.go:118", after := #[], guard := none }) (v := .int .i64 (k : Int)) rfl (by kernel_rfl) (by kernel_rfl) (by kernel_rfl) (fun _ _ _ h => h) (Or.inl ⟨by rfl, fun w0 hSw => by (go_simp)⟩) hH ?_
        simp only [Act.put, List.setIfInBounds_toArray, List.set_cons_zero, List.set_cons_succ]
        refine wpAnyH_take (i := 9) (oi := { dst := some 51, op := Op.fieldAddr 43 (Operand.tmp 1) 1, type := 0, pos := "l16_texture.go:118", after := #[], guard := none }) (v := .pointer (some ⟨w.heap.size, 1, none⟩)) rfl (by kernel_rfl) (by kernel_rfl) (by kernel_rfl) (fun _ _ _ h => h) (Or.inl ⟨by rfl, fun w0 hSw => by (go_simp)⟩) hH ?_
        simp only [Act.put, List.setIfInBounds_toArray, List.set_cons_zero, List.set_cons_succ]
        refine wpAnyH_take (i := 10) (oi := { dst := some 52, op := Op.load 3 (Operand.tmp 51), type := 3, pos := "l16_texture.go:118", after := #[{ on := 9, ground := Ground.data }], guard := none }) (v := .int .i64 y) rfl (by kernel_rfl) (by kernel_rfl) (by kernel_rfl) (fun _ _ _ h => h) (Or.inl ⟨by rfl, fun w0 hSw => by ((have e9 := cell_nx t1 hSw); go_simp)⟩) hH ?_
        simp only [Act.put, List.setIfInBounds_toArray, List.set_cons_zero, List.set_cons_succ]
        refine wpAnyH_take (i := 11) (oi := { dst := some 53, op := Op.move (Operand.tmp 5), type := 3, pos := "l16_texture.go:118", after := #[], guard := none }) (v := .int .i64 (k : Int)) rfl (by kernel_rfl) (by kernel_rfl) (by kernel_rfl) (fun _ _ _ h => h) (Or.inl ⟨by rfl, fun w0 hSw => by (go_simp)⟩) hH ?_
        simp only [Act.put, List.setIfInBounds_toArray, List.set_cons_zero, List.set_cons_succ]
        refine wpAnyH_ready (rs := [3]) (by kernel_rfl) (by simp) ?_
        refine (AllReadyH.cons (o := { dst := some 45, op := Op.call { callee := Callee.invoke (Operand.tmp 44) "loop.example/g00053/impl.size", args := #[], argTypes := #[] }, type := 3, pos := "l16_texture.go:118", after := #[{ on := 2, ground := Ground.data }], guard := none }) rfl (fun K hK => ?_) AllReadyH.nil)
        refine step_callC 113 #[.agg #[]] (fun z v w' => z = .int .i64 2 ∧ Below v.heap.size v w') (by rfl) (by go_simp) ((size_s _).mono fun e w' ⟨h1, h2⟩ => ⟨_, h1, rfl, h2⟩) ?_
        rintro z5 w5 ⟨rfl, B5⟩
        simp only [Act.put, List.setIfInBounds_toArray, List.set_cons_zero, List.set_cons_succ]
        refine hK.out _ _ (hH.trans (B5.mono hH.size)) (fun hH' => ?_)
        clear hK K
        replace hH := hH'
        clear hH' 
        refine wpAnyH_ready (rs := [7]) (by kernel_rfl) (by simp) ?_
        refine (AllReadyH.cons (o := { dst := some 49, op := Op.call { callee := Callee.value (Operand.func 53), args := #[Operand.tmp 47, Operand.tmp 48], argTypes := #[3, 3] }, type := 3, pos := "l16_texture.go:118", after := #[{ on := 5, ground := Ground.data }, { on := 6, ground := Ground.data }, { on := 3, ground := Ground.chain }], guard := none }) rfl (fun K hK => ?_) AllReadyH.nil)
        refine step_callC 53 #[.int .i64 s, .int .i64 (k : Int)] (fun z v w' => z = .int .i64 A ∧ w' = v) (by rfl) (by go_simp) ((HA.out _).mono fun e w' ⟨h1, h2⟩ => ⟨_, h1, rfl, h2⟩) ?_
        rintro z7 w7 ⟨rfl, hw7⟩
        subst w7
        simp only [Act.put, List.setIfInBounds_toArray, List.set_cons_zero, List.set_cons_succ]
        refine hK.out _ _ hH (fun hH' => ?_)
        clear hK K
        replace hH := hH'
        clear hH' 
        refine wpAnyH_take (i := 8) (oi := { dst := some 50, op := Op.binOp BinOp.mul 3 (Operand.tmp 45) (Operand.tmp 49) 3, type := 3, pos := "l16_texture.go:118", after := #[{ on := 3, ground := Ground.data }, { on := 7, ground := Ground.data }], guard := none }) (v := .int .i64 (2 * A)) rfl (by kernel_rfl) (by kernel_rfl) (by kernel_rfl) (fun _ _ _ h => h) (Or.inl ⟨by rfl, fun w0 hSw => by (go_simp)⟩) hH ?_
        simp only [Act.put, List.setIfInBounds_toArray, List.set_cons_zero, List.set_cons_succ]
        refine wpAnyH_ready (rs := [12]) (by kernel_rfl) (by simp) ?_
        refine (AllReadyH.cons (o := { dst := some 54, op := Op.call { callee := Callee.value (Operand.func 53), args := #[Operand.tmp 52, Operand.tmp 53], argTypes := #[3, 3] }, type := 3, pos := "l16_texture.go:118", after := #[{ on := 10, ground := Ground.data }, { on := 11, ground := Ground.data }, { on := 7, ground := Ground.chain }], guard := none }) rfl (fun K hK => ?_) AllReadyH.nil)
        refine step_callC 53 #[.int .i64 y, .int .i64 (k : Int)] (fun z v w' => z = .int .i64 B ∧ w' = v) (by rfl) (by go_simp) ((HBB.out _).mono fun e w' ⟨h1, h2⟩ => ⟨_, h1, rfl, h2⟩) ?_
        rintro z8 w8 ⟨rfl, hw8⟩
        subst w8
        simp only [Act.put, List.setIfInBounds_toArray, List.set_cons_zero, List.set_cons_succ]
        refine hK.out _ _ hH (fun hH' => ?_)
        clear hK K
        replace hH := hH'
        clear hH' 
        refine wpAnyH_take (i := 13) (oi := { dst := some 55, op := Op.binOp BinOp.mul 3 (Operand.tmp 50) (Operand.tmp 54) 3, type := 3, pos := "l16_texture.go:118", after := #[{ on := 8, ground := Ground.data }, { on := 12, ground := Ground.data }], guard := none }) (v := .int .i64 (2 * A * B)) rfl (by kernel_rfl) (by kernel_rfl) (by kernel_rfl) (fun _ _ _ h => h) (Or.inl ⟨by rfl, fun w0 hSw => by (go_simp)⟩) hH ?_
        simp only [Act.put, List.setIfInBounds_toArray, List.set_cons_zero, List.set_cons_succ]
        refine wpAnyH_take (i := 14) (oi := { dst := some 56, op := Op.binOp BinOp.neq 3 (Operand.tmp 43) (Operand.tmp 55) 3, type := 4, pos := "l16_texture.go:118", after := #[{ on := 1, ground := Ground.data }, { on := 13, ground := Ground.data }], guard := none }) (v := .bool false) rfl (by kernel_rfl) (by kernel_rfl) (by kernel_rfl) (fun _ _ _ h => h) (Or.inl ⟨by rfl, fun w0 hSw => by (go_simp)⟩) hH ?_
        simp only [Act.put, List.setIfInBounds_toArray, List.set_cons_zero, List.set_cons_succ]
        refine wpAnyH_done (by kernel_rfl) ?_ _
        go_wp2
        go_roundw
        case rel => exact ⟨k + 1, by omega, by go_num, HK3, HB.out.trans (hH.mono HB.out.size)⟩
        case measure => simp [intOf]; omega
      · rw [decide_eq_false hr] at HE
        have HF3 := Hid.mk (HF2.out HE)
        have hb : ((lk : Int) != 2 * A * B) = true := by simpa using hr
        have HR3 := Hid.mk hr
        clear HE hr HF2 HK2 HOK CN HK ps ec
        go_wp2
        generalize hWW : wr.drew = WX
        have t0 := cell_nx t0 (below_drew (Below.refl _ _))
        have t1 := cell_nx t1 (below_drew (Below.refl _ _))
        have HB := Hid.mk (below_drew HB.out)
        rw [hWW] at t0 t1 HB
        refine wp_region_held_drew (S := fun v => Below WX.heap.size WX v) (by kernel_rfl) (by rw [hWW]; exact Below.refl _ _) (fun hH => ?_)
        rw [hWW] at hH ⊢
        clear hWW
        refine wpAnyH_take (i := 0) (oi := { dst := some 42, op := Op.move (Operand.tmp 6), type := 28, pos := "l16_texture.go:118", after := #[], guard := none }) (v := .slice ra lk rc) rfl (by kernel_rfl) (by kernel_rfl) (by kernel_rfl) (fun _ _ _ h => h) (Or.inl ⟨by rfl, fun w0 hSw => by (go_simp)⟩) hH ?_
        simp only [Act.put, List.setIfInBounds_toArray, List.set_cons_zero, List.set_cons_succ]
        refine wpAnyH_take (i := 1) (oi := { dst := some 43, op := Op.call { callee := Callee.builtin Builtin.len, args := #[Operand.tmp 42], argTypes := #[28] }, type := 3, pos := "l16_texture.go:118", after := #[{ on := 0, ground := Ground.data }], guard := none }) (v := .int .i64 (lk : Int)) rfl (by kernel_rfl) (by kernel_rfl) (by kernel_rfl) (fun _ _ _ h => h) (Or.inl ⟨by rfl, fun w0 hSw => by (go_simp)⟩) hH ?_
        simp only [Act.put, List.setIfInBounds_toArray, List.set_cons_zero, List.set_cons_succ]
        refine wpAnyH_take (i := 2) (oi := { dst := some 44, op := Op.move (Operand.tmp 3), type := 62, pos := "l16_texture.go:118", after := #[], guard := none }) (v := .iface 100 (.agg #[])) rfl (by kernel_rfl) (by kernel_rfl) (by kernel_rfl) (fun _ _ _ h => h) (Or.inl ⟨by rfl, fun w0 hSw => by (go_simp)⟩) hH ?_
        simp only [Act.put, List.setIfInBounds_toArray, List.set_cons_zero, List.set_cons_succ]
        refine wpAnyH_take (i := 4) (oi := { dst := some 46, op := Op.fieldAddr 43 (Operand.tmp 1) 0, type := 0, pos := "l16_texture.go:118", after := #[], guard := none }) (v := .pointer (some ⟨w.heap.size, 0, none⟩)) rfl (by kernel_rfl) (by kernel_rfl) (by kernel_rfl) (fun _ _ _ h => h) (Or.inl ⟨by rfl, fun w0 hSw => by (go_simp)⟩) hH ?_
        simp only [Act.put, List.setIfInBounds_toArray, List.set_cons_zero, List.set_cons_succ]
        refine wpAnyH_take (i := 5) (oi := { dst := some 47, op := Op.load 3 (Operand.tmp 46), type := 3, pos := "l16_texture.go:118", after := #[{ on := 4, ground := Ground.data }], guard := none }) (v := .int .i64 s) rfl (by kernel_rfl) (by kernel_rfl) (by kernel_rfl) (fun _ _ _ h => h) (Or.inl ⟨by rfl, fun w0 hSw => by ((have e9 := cell_nx t0 hSw); go_simp)⟩) hH ?_
        simp only [Act.put, List.setIfInBounds_toArray, List.set_cons_zero, List.set_cons_succ]
        refine wpAnyH_take (i := 6) (oi := { dst := some 48, op := Op.move (Operand.tmp 5), type := 3, pos := "l16_texture.go:118", after := #[], guard := none }) (v := .int .i64 (k : Int)) rfl (by kernel_rfl) (by kernel_rfl) (by kernel_rfl) (fun _ _ _ h => h) (Or.inl ⟨by rfl, fun w0 hSw => by (go_simp)⟩) hH ?_
        simp only [Act.put, List.setIfInBounds_toArray, List.set_cons_zero, List.set_cons_succ]
        refine wpAnyH_take (i := 9) (oi := { dst := some 51, op := Op.fieldAddr 43 (Operand.tmp 1) 1, type := 0, pos := "l16_texture.go:118", after := #[], guard := none }) (v := .pointer (some ⟨w.heap.size, 1, none⟩)) rfl (by kernel_rfl) (by kernel_rfl) (by kernel_rfl) (fun _ _ _ h => h) (Or.inl ⟨by rfl, fun w0 hSw => by (go_simp)⟩) hH ?_
        simp only [Act.put, List.setIfInBounds_toArray, List.set_cons_zero, List.set_cons_succ]
        refine wpAnyH_take (i := 10) (oi := { dst := some 52, op := Op.load 3 (Operand.tmp 51), type := 3, pos := "l16_texture.go:118", after := #[{ on := 9, ground := Ground.data }], guard := none }) (v := .int .i64 y) rfl (by kernel_rfl) (by kernel_rfl) (by kernel_rfl) (fun _ _ _ h => h) (Or.inl ⟨by rfl, fun w0 hSw => by ((have e9 := cell_nx t1 hSw); go_simp)⟩) hH ?_
        simp only [Act.put, List.setIfInBounds_toArray, List.set_cons_zero, List.set_cons_succ]
        refine wpAnyH_take (i := 11) (oi := { dst := some 53, op := Op.move (Operand.tmp 5), type := 3, pos := "l16_texture.go:118", after := #[], guard := none }) (v := .int .i64 (k : Int)) rfl (by kernel_rfl) (by kernel_rfl) (by kernel_rfl) (fun _ _ _ h => h) (Or.inl ⟨by rfl, fun w0 hSw => by (go_simp)⟩) hH ?_
        simp only [Act.put, List.setIfInBounds_toArray, List.set_cons_zero, List.set_cons_succ]
        refine wpAnyH_ready (rs := [3]) (by kernel_rfl) (by simp) ?_
        refine (AllReadyH.cons (o := { dst := some 45, op := Op.call { callee := Callee.invoke (Operand.tmp 44) "loop.example/g00053/impl.size", args := #[], argTypes := #[] }, type := 3, pos := "l16_texture.go:118", after := #[{ on := 2, ground := Ground.data }], guard := none }) rfl (fun K hK => ?_) AllReadyH.nil)
        refine step_callC 113 #[.agg #[]] (fun z v w' => z = .int .i64 2 ∧ Below v.heap.size v w') (by rfl) (by go_simp) ((size_s _).mono fun e w' ⟨h1, h2⟩ => ⟨_, h1, rfl, h2⟩) ?_
        rintro z5 w5 ⟨rfl, B5⟩
        simp only [Act.put, List.setIfInBounds_toArray, List.set_cons_zero, List.set_cons_succ]
        refine hK.out _ _ (hH.trans (B5.mono hH.size)) (fun hH' => ?_)
        clear hK K
        replace hH := hH'
        clear hH' 
        refine wpAnyH_ready (rs := [7]) (by kernel_rfl) (by simp) ?_
        refine (AllReadyH.cons (o := { dst := some 49, op := Op.call { callee := Callee.value (Operand.func 53), args := #[Operand.tmp 47, Operand.tmp 48], argTypes := #[3, 3] }, type := 3, pos := "l16_texture.go:118", after := #[{ on := 5, ground := Ground.data }, { on := 6, ground := Ground.data }, { on := 3, ground := Ground.chain }], guard := none }) rfl (fun K hK => ?_) AllReadyH.nil)
        refine step_callC 53 #[.int .i64 s, .int .i64 (k : Int)] (fun z v w' => z = .int .i64 A ∧ w' = v) (by rfl) (by go_simp) ((HA.out _).mono fun e w' ⟨h1, h2⟩ => ⟨_, h1, rfl, h2⟩) ?_
        rintro z7 w7 ⟨rfl, hw7⟩
        subst w7
        simp only [Act.put, List.setIfInBounds_toArray, List.set_cons_zero, List.set_cons_succ]
        refine hK.out _ _ hH (fun hH' => ?_)
        clear hK K
        replace hH := hH'
        clear hH' 
        refine wpAnyH_take (i := 8) (oi := { dst := some 50, op := Op.binOp BinOp.mul 3 (Operand.tmp 45) (Operand.tmp 49) 3, type := 3, pos := "l16_texture.go:118", after := #[{ on := 3, ground := Ground.data }, { on := 7, ground := Ground.data }], guard := none }) (v := .int .i64 (2 * A)) rfl (by kernel_rfl) (by kernel_rfl) (by kernel_rfl) (fun _ _ _ h => h) (Or.inl ⟨by rfl, fun w0 hSw => by (go_simp)⟩) hH ?_
        simp only [Act.put, List.setIfInBounds_toArray, List.set_cons_zero, List.set_cons_succ]
        refine wpAnyH_ready (rs := [12]) (by kernel_rfl) (by simp) ?_
        refine (AllReadyH.cons (o := { dst := some 54, op := Op.call { callee := Callee.value (Operand.func 53), args := #[Operand.tmp 52, Operand.tmp 53], argTypes := #[3, 3] }, type := 3, pos := "l16_texture.go:118", after := #[{ on := 10, ground := Ground.data }, { on := 11, ground := Ground.data }, { on := 7, ground := Ground.chain }], guard := none }) rfl (fun K hK => ?_) AllReadyH.nil)
        refine step_callC 53 #[.int .i64 y, .int .i64 (k : Int)] (fun z v w' => z = .int .i64 B ∧ w' = v) (by rfl) (by go_simp) ((HBB.out _).mono fun e w' ⟨h1, h2⟩ => ⟨_, h1, rfl, h2⟩) ?_
        rintro z8 w8 ⟨rfl, hw8⟩
        subst w8
        simp only [Act.put, List.setIfInBounds_toArray, List.set_cons_zero, List.set_cons_succ]
        refine hK.out _ _ hH (fun hH' => ?_)
        clear hK K
        replace hH := hH'
        clear hH' 
        refine wpAnyH_take (i := 13) (oi := { dst := some 55, op := Op.binOp BinOp.mul 3 (Operand.tmp 50) (Operand.tmp 54) 3, type := 3, pos := "l16_texture.go:118", after := #[{ on := 8, ground := Ground.data }, { on := 12, ground := Ground.data }], guard := none }) (v := .int .i64 (2 * A * B)) rfl (by kernel_rfl) (by kernel_rfl) (by kernel_rfl) (fun _ _ _ h => h) (Or.inl ⟨by rfl, fun w0 hSw => by (go_simp)⟩) hH ?_
        simp only [Act.put, List.setIfInBounds_toArray, List.set_cons_zero, List.set_cons_succ]
        refine wpAnyH_take (i := 14) (oi := { dst := some 56, op := Op.binOp BinOp.neq 3 (Operand.tmp 43) (Operand.tmp 55) 3, type := 4, pos := "l16_texture.go:118", after := #[{ on := 1, ground := Ground.data }, { on := 13, ground := Ground.data }], guard := none }) (v := .bool true) rfl (by kernel_rfl) (by kernel_rfl) (by kernel_rfl) (fun _ _ _ h => h) (Or.inl ⟨by rfl, fun w0 hSw => by (go_simp)⟩) hH ?_
        simp only [Act.put, List.setIfInBounds_toArray, List.set_cons_zero, List.set_cons_succ]
        refine wpAnyH_done (by kernel_rfl) ?_ _
        go_wp2
        go_ret
        exact ⟨by rw [HF3.out]; rfl, HBW.out _ (HB.out.trans (hH.mono HB.out.size))⟩
end Go.Proofs.Ythkngcdfnemhaaa
