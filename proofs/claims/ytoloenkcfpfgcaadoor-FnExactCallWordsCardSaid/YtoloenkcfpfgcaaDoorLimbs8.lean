/- Contract of the model's l1Mul over two numbers that hold rows of limbs: the product's limbs are worth the product; conditions: both rows stand in memory, at most 100,000 limbs each, each below 10^9. -/
import Derived.Test.YtoloenkcfpfgcaaDoorLimbs7
namespace Go.Proofs.YtoloenkcfpfgcaaDoor
open Go.ChangeShapes Go.WideShapes Go.ChangeAt Go.RowKit
theorem heap_alloc_eq {w : World} {o : Obj} {k : Nat} (h : k = w.heap.size) : (w.alloc o).heap[k]? = some o := by subst h; exact heap_alloc_new _ _
theorem Own.drewN {w : World} {B o n : Nat} {f : Nat → Nat} (h : Own w B o n f) (q : Nat) : Own (w.drewN q) B o n f := ⟨fun i hi => (h.cell i hi : w.cell? _ = _), fun i => h.free i, h.lo, h.hi⟩
theorem Own.next {w w' : World} {B o n : Nat} {f : Nat → Nat} (h : Own w B o n f) (hb : Below w.heap.size w w') : Own w' B o n f := by
  have z := hb.size
  have zh := h.hi
  obtain ⟨hc, hf⟩ := bcell hb
  exact ⟨fun i hi => (hb.cell (p := ⟨o, i, none⟩) h.hi).trans (h.cell i hi), fun i => (hf _ _ h.hi).trans (h.free i), h.lo, by omega⟩
theorem Own.other {w : World} {B o n : Nat} {f : Nat → Nat} (h : Own w B o n f) (c k : Nat) (v : Value) (hc : c ≠ o) : Own (w.setCell ⟨c, k, none⟩ v) B o n f := by
  refine ⟨fun i hi => ?_, fun i => ?_, h.lo, by simpa using h.hi⟩
  · have hne : (⟨c, k, none⟩ : Addr) ≠ ⟨o, i, none⟩ := by intro hh; injection hh with h1; exact hc h1
    rw [World.cell?_setCell_other (h := hne)]
    exact h.cell i hi
  · simp [h.free i]
/-- Two numbers and a third one's place as they stand in memory behind an entry. -/
structure Args (k : Nat) (w0 w : World) (p0 p1 p2 q0 q1 q2 : Value) : Prop where
  A : w.heap[k]? = some (.cells #[p0, p1, p2] 50 (0, 0))
  B : w.heap[k + 1]? = some (.cells #[q0, q1, q2] 50 (0, 0))
  Z : w.heap[k + 2]? = some (.cells #[.int .i64 0, .bool false, .slice none 0 0] 50 (0, 0))
  below : Below k w0 w
  big : k + 3 ≤ w.heap.size
theorem Args.next {k : Nat} {w0 w w' : World} {p0 p1 p2 q0 q1 q2 : Value} (h : Args k w0 w p0 p1 p2 q0 q1 q2) (hb : Below w.heap.size w w') : Args k w0 w' p0 p1 p2 q0 q1 q2 := by
  have z := h.big
  have zz := hb.size
  exact ⟨(hb.block _ (by omega)).trans h.A, (hb.block _ (by omega)).trans h.B, (hb.block _ (by omega)).trans h.Z, h.below.trans (hb.mono (by omega)), by omega⟩
theorem Args.drew {k : Nat} {w0 w : World} {p0 p1 p2 q0 q1 q2 : Value} (h : Args k w0 w p0 p1 p2 q0 q1 q2) : Args k w0 w.drew p0 p1 p2 q0 q1 q2 := ⟨h.A, h.B, h.Z, h.below.drew, h.big⟩
theorem Own.drew {w : World} {B o n : Nat} {f : Nat → Nat} (h : Own w B o n f) : Own w.drew B o n f := ⟨fun i hi => (h.cell i hi : w.cell? _ = _), fun i => h.free i, h.lo, h.hi⟩
theorem madeZ_parts (neg : Bool) (b cb t : Nat) (f : Nat → Nat) : ∃ V N p l c, madeZ neg b cb t f = .agg #[.int .i64 V, .bool N, .slice p l c] := by
  unfold madeZ
  split <;> exact ⟨_, _, _, _, _, rfl⟩
theorem Args.start {w : World} {p0 p1 p2 q0 q1 q2 : Value} : Args w.heap.size w (((w.alloc (.cells #[p0, p1, p2] 50)).alloc (.cells #[q0, q1, q2] 50)).alloc (.cells #[.int .i64 0, .bool false, .slice none 0 0] 50)) p0 p1 p2 q0 q1 q2 := by
  refine ⟨(Below.heap_alloc _ _ _ (by simp; omega)).trans ((Below.heap_alloc _ _ _ (by simp)).trans (heap_alloc_new _ _)), (Below.heap_alloc _ _ _ (by simp)).trans (heap_alloc_eq (by simp)), heap_alloc_eq (by simp), ?_, by simp⟩
  exact (((Below.refl _ _).alloc (by simp) _).alloc (by simp) _).alloc (by simp; omega) _

set_option maxRecDepth 100000 in
set_option maxHeartbeats 2000000 in
theorem gMul (na nb : Bool) (n m a b ca cb : Nat) (x y : Nat → Nat) (w : World) (hn : n ≤ 100000) (hm : m ≤ 100000) (n0 : 0 < n) (m0 : 0 < m)
    (ha : Limbs w a n x) (hb : Limbs w b m y) (la : a < w.heap.size) (lb : b < w.heap.size) (hx : ∀ i, x i < 1000000000) (hy : ∀ i, y i < 1000000000) :
    Calls Tryd.prog 37 #[.agg #[.int .i64 0, .bool na, .slice (some ⟨a, 0, none⟩) n ca], .agg #[.int .i64 0, .bool nb, .slice (some ⟨b, 0, none⟩) m cb]] w fun r w' => ∃ o f, r = .returned (madeZ (na != nb) o (n + m + 1) (trim f (n + m + 1)) f) ∧ Own w' w.heap.size o (n + m + 1) f ∧ (∀ i, f i < 1000000000) ∧ val f (n + m + 1) = val x n * val y m ∧ Below w.heap.size w w' := by
  obtain ⟨i0, hi, hz0, hz1, hz2⟩ := info_parts info23
  go_enter Tryd.func37, Tryd.ntmps37
  go_wp2_with (first | (go_at_call 61; refine (gIsSmall _ _ _ _ n0 _).mono ?_; rintro e w1 ⟨rfl, hb1⟩; have R1 := Args.start.next hb1; obtain ⟨⟨u0, u1, u2⟩, _⟩ := blk3 R1.A) | (go_at_call 63; (with_reducible show Calls Tryd.prog 63 #[Value.agg #[Value.int IntKind.i64 0, Value.bool na, Value.slice (some ⟨a, 0, none⟩) n ca]] _ _); refine (gLimbs _ _ _ _ n0 (by omega) _).mono ?_; rintro e w2 ⟨rfl, hb2⟩; have R2 := R1.next hb2; obtain ⟨⟨v0, v1, v2⟩, _⟩ := blk3 R2.B) | (go_at_call 63; (with_reducible show Calls Tryd.prog 63 #[Value.agg #[Value.int IntKind.i64 0, Value.bool nb, Value.slice (some ⟨b, 0, none⟩) m cb]] _ _); refine (gLimbs _ _ _ _ m0 (by omega) _).mono ?_; rintro e w3 ⟨rfl, hb3⟩; have R3 := R2.next hb3) | (at_make; refine wpList_make_full _ rfl _ _ 22 rfl w3.heap.size 23 i0 (.int .u32 0) 1 Tryd.underlying22 hi hz0 hz1 _ _ _ _ (n + m + 1) rfl rfl (by first | rfl | omega) (by first | rfl | omega) (by rw [hz2]; omega) (by unfold maxLen; omega) (Nat.le_refl _) ?_; intro w4 hown hgrow))
  have O1 : Own w4 w3.heap.size w3.heap.size (n + m + 1) (fun _ => 0) := own_made hown (Nat.le_refl _) (hown.lt _ rfl).2
  have B4 : Below w3.heap.size w3 w4 := (Below.refl _ _).grown hgrow (Nat.le_refl _) (by simp)
  have R4 := R3.next B4
  clear hown hgrow hi hz0 hz1 hz2
  have la3 : a < w3.heap.size := by have := R3.big; omega
  have lb3 : b < w3.heap.size := by have := R3.big; omega
  have ha3 : Limbs w3 a n x := fun j hj => (R3.below.cell (p := ⟨a, j, none⟩) la).trans (ha j hj)
  have hb3' : Limbs w3 b m y := fun j hj => (R3.below.cell (p := ⟨b, j, none⟩) lb).trans (hb j hj)
  clear ha hb
  go_loopw [53] (fun iv wr => ∃ i : Nat, i ≤ n ∧ iv = .int .i64 i ∧ ∃ f, Own wr w3.heap.size w3.heap.size (n + m + 1) f ∧ (∀ j, f j < 1000000000) ∧ (∀ j, i + m ≤ j → f j = 0) ∧ Hid (val f (i + m) = val x i * val y m) ∧ Below w3.heap.size w3 wr) (fun iv _ => n - (intOf iv).toNat)
  case atStart => exact ⟨0, by omega, rfl, fun _ => 0, O1, fun _ => by show 0 < 1000000000; decide, fun _ _ => rfl, by show val _ _ = _; rw [val_zeros _ 0 m (fun _ _ _ => rfl)]; simp [val], B4⟩
  case round =>
    obtain ⟨i, hi, rfl, f, OF, f9, fz, HV, BF⟩ := hrel
    by_cases hiN : i < n
    · have hiI : (i : Int) < (n : Int) := by omega
      go_wp2
      go_loopw [11, 58] (fun c kv wr => ∃ k C : Nat, k ≤ m ∧ kv = .int .i64 k ∧ c = .int .u64 C ∧ C < 1000000000 ∧ ∃ g, Own wr w3.heap.size w3.heap.size (n + m + 1) g ∧ (∀ j, g j < 1000000000) ∧ (∀ j, i + k ≤ j → g j = f j) ∧ Hid (val g (i + k) + C * 1000000000 ^ (i + k) = val f (i + k) + x i * val y k * 1000000000 ^ i) ∧ Below w3.heap.size w3 wr) (fun _ kv _ => m - (intOf kv).toNat)
      case atStart => exact ⟨0, 0, by omega, rfl, rfl, by decide, f, OF, f9, fun _ _ => rfl, by show val f (i + 0) + 0 * _ = _; simp [val], BF⟩
      case round =>
        obtain ⟨k, C, hk, rfl, rfl, hC, g, OG, g9, ge, HG, BG⟩ := hrel
        by_cases hkM : k < m
        · have hkI : (k : Int) < (m : Int) := by omega
          obtain ⟨p, hp⟩ : ∃ p, i + k = p := ⟨_, rfl⟩
          have hpI : (i : Int) + (k : Int) = (p : Int) := by omega
          have p0 : (0 : Int) ≤ (p : Int) := by omega
          have p1 : (p : Int) < (n : Int) + (m : Int) + 1 := by omega
          have p2 : (p : Int) < ((n + m + 1 : Nat) : Int) := by omega
          have f0 := OG.free p
          have g0 : wr.cell? ⟨w3.heap.size, p, none⟩ = some (.int .u32 (g p : Int)) := OG.cell p (by omega)
          have i0 : (0 : Int) ≤ (i : Int) := by omega
          have k0 : (0 : Int) ≤ (k : Int) := by omega
          have cx : wr.cell? ⟨a, i, none⟩ = some (.int .u32 (x i : Int)) := (BG.cell (p := ⟨a, i, none⟩) la3).trans (ha3 i hiN)
          have cy : wr.cell? ⟨b, k, none⟩ = some (.int .u32 (y k : Int)) := (BG.cell (p := ⟨b, k, none⟩) lb3).trans (hb3' k hkM)
          have xb := hx i
          have yb := hy k
          have gb := g9 p
          have MB := mul_bound (g p) (y k) C (x i) gb yb hC xb
          obtain ⟨P, hP⟩ : ∃ P, x i * y k = P := ⟨_, rfl⟩
          rw [hP] at MB
          have hPI : (x i : Int) * (y k : Int) = (P : Int) := by rw [← hP]; push_cast; rfl
          have HP : Hid (x i * y k = P) := hP
          have Hp : Hid (i + k = p) := hp
          have HMI : Hid (val (put g p ((g p + P + C) % 1000000000)) (i + (k + 1)) + (g p + P + C) / 1000000000 * 1000000000 ^ (i + (k + 1)) = val f (i + (k + 1)) + x i * val y (k + 1) * 1000000000 ^ i) := by
            have := mul_inner f g y i k (x i) C (g p + P + C) (by rw [hP, hp]) (ge _ (Nat.le_refl _)) HG.out
            rw [hp] at this
            exact this
          obtain ⟨mb1, mb2⟩ := MB
          clear hP hp
          go_wp2
          go_quiet (fail)
          go_wp2
          go_roundw
          case rel => exact ⟨k + 1, (g p + P + C) / 1000000000, by omega, by go_num, by first | rfl | go_num, mb2, put g p ((g p + P + C) % 1000000000), (OG.drewN _).set' p ((g p + P + C) % 1000000000) _ (by omega) (by omega) (fun j hj => rfl), fun j => by unfold put; split; omega; exact g9 j, fun j hj => by have := Hp.out; unfold put; rw [if_neg (by omega)]; exact ge j (by omega), HMI, (below_drewN BG _).setCell (Nat.le_refl _) _⟩
          case measure => simp [intOf]; omega
        · have hkk : k = m := by omega
          subst hkk
          obtain ⟨p, hp⟩ : ∃ p, i + k = p := ⟨_, rfl⟩
          have hpI : (i : Int) + (k : Int) = (p : Int) := by omega
          have p0 : (0 : Int) ≤ (p : Int) := by omega
          have p1 : (p : Int) < (n : Int) + (k : Int) + 1 := by omega
          have p2 : (p : Int) < ((n + k + 1 : Nat) : Int) := by omega
          have f0 := OG.free p
          have g0 : wr.cell? ⟨w3.heap.size, p, none⟩ = some (.int .u32 (g p : Int)) := OG.cell p (by omega)
          have HO : Hid (val (put g p C) (i + 1 + k) = val x (i + 1) * val y k) := by
            have := mul_outer f g x y i k C HV.out HG.out
            rw [hp] at this
            exact this
          have Hp : Hid (i + k = p) := hp
          clear hp
          go_wp2
          go_roundw
          case rel => exact ⟨i + 1, by omega, by go_num, put g p C, OG.set' p C _ (by first | rfl | omega) (by omega) (fun j hj => rfl), fun j => by unfold put; split; omega; exact g9 j, fun j hj => by have := Hp.out; unfold put; rw [if_neg (by omega)]; rw [ge j (by omega)]; exact fz j (by omega), HO, BG.setCell (Nat.le_refl _) _⟩
          case measure => simp [intOf]; omega
    · have hin : i = n := by omega
      subst hin
      have R5 := R3.next BF
      obtain ⟨⟨s0, s1, s2⟩, _⟩ := blk3 R5.A
      obtain ⟨⟨r0, r1, r2⟩, _⟩ := blk3 R5.B
      have HVV : Hid (val f (i + m + 1) = val x i * val y m) := by
        show val f (i + m + 1) = _
        rw [val_zeros f (i + m) 1 (fun j h1 _ => fz j h1)]; exact HV.out
      go_wp2
      go_region_with (first | (go_at_call 65; (with_reducible show Calls Tryd.prog 65 #[Value.agg #[Value.int IntKind.i64 0, Value.bool na, Value.slice (some ⟨a, 0, none⟩) i ca]] _ _); refine (gNeg _ _ _ _ n0 _).mono ?_; rintro e w6 ⟨rfl, hb6⟩; have R6 := R5.drew.next hb6; have O6 := OF.drew.next hb6; obtain ⟨⟨t0, t1, t2⟩, _⟩ := blk3 R6.B) | (go_at_call 65; (with_reducible show Calls Tryd.prog 65 #[Value.agg #[Value.int IntKind.i64 0, Value.bool nb, Value.slice (some ⟨b, 0, none⟩) m cb]] _ _); refine (gNeg _ _ _ _ m0 _).mono ?_; rintro e w7 ⟨rfl, hb7⟩; have R7 := R6.next hb7; have O7 := O6.next hb7) | (go_at_call 64; refine (make_any _ (i + m + 1) w3.heap.size (i + m + 1) f _ (by omega) (Nat.le_refl _) O7.cell O7.hi f9).mono ?_; rintro e w8 ⟨he, hb8⟩; obtain ⟨V, N, S, L, CC, hM⟩ := madeZ_parts (na != nb) w3.heap.size (i + m + 1) (trim f (i + m + 1)) f; have HM : Hid (_ = _) := hM; (have he2 := he.trans (congrArg Ending.returned hM)); clear he hM; subst he2; have R8 := R7.next hb8; have O8 := O7.next hb8; obtain ⟨⟨z0, z1, z2⟩, z3, z4, z5⟩ := blk3 R8.Z))
      all_goals
        have big := R3.big
        have O9 := ((O8.other (w.heap.size + 1 + 1) 0 (.int .i64 V) (by omega)).other (w.heap.size + 1 + 1) 1 (.bool N) (by omega)).other (w.heap.size + 1 + 1) 2 (.slice S L CC) (by omega)
        have B9 := ((R8.below.setCell (p := ⟨w.heap.size + 1 + 1, 0, none⟩) (by simp; omega) (.int .i64 V)).setCell (p := ⟨w.heap.size + 1 + 1, 1, none⟩) (by simp; omega) (.bool N)).setCell (p := ⟨w.heap.size + 1 + 1, 2, none⟩) (by simp; omega) (.slice S L CC)
        go_wp2
        exact bodyPost_ret (v := .agg #[.int .i64 V, .bool N, .slice S L CC]) (by simp [results, Tryd.results37, go_sem, z0, z1, z2]) rfl ⟨w3.heap.size, f, by rw [HM.out], ⟨O9.cell, O9.free, by omega, O9.hi⟩, f9, HVV.out, B9⟩
end Go.Proofs.YtoloenkcfpfgcaaDoor
