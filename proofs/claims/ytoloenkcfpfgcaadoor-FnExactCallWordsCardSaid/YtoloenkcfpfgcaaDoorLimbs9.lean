/- Contract of the model's l1Mul over two numbers of which not both are small, each by what it stands for; conditions: at most 100,000 limbs each, each below 10^9. -/
import Derived.Test.YtoloenkcfpfgcaaDoorLimbs8
namespace Go.Proofs.YtoloenkcfpfgcaaDoor
open Go.ChangeShapes Go.WideShapes Go.ChangeAt Go.RowKit

/-- A number by what the model's own questions answer of it: small or not, below 0 or not, its limbs. -/
structure Rep (w : World) (v : Value) (small neg : Bool) (n : Nat) (x : Nat → Nat) : Prop where
  sm : ∀ w', Below w.heap.size w w' → Calls Tryd.prog 61 #[v] w' fun e w'' => e = .returned (.bool small) ∧ Below w'.heap.size w' w''
  lm : ∀ w', Below w.heap.size w w' → Calls Tryd.prog 63 #[v] w' fun e w'' => ∃ b cb, e = .returned (.slice (some ⟨b, 0, none⟩) n cb) ∧ Limbs w'' b n x ∧ b < w''.heap.size ∧ Below w'.heap.size w' w''
  ng : ∀ w', Below w.heap.size w w' → Calls Tryd.prog 65 #[v] w' fun e w'' => e = .returned (.bool neg) ∧ Below w'.heap.size w' w''
  lt : ∀ i, x i < 1000000000
  len : n ≤ 100000
set_option maxRecDepth 100000 in
set_option maxHeartbeats 2000000 in
theorem rMul_great (na sb nb : Bool) (n m : Nat) (x y : Nat → Nat) (va vb : Int) (ga gb : Bool) (pa pb : Option Addr) (ta ca tb cb : Nat) (w : World)
    (RA : Rep w (.agg #[.int .i64 va, .bool ga, .slice pa ta ca]) false na n x) (RB : Rep w (.agg #[.int .i64 vb, .bool gb, .slice pb tb cb]) sb nb m y) :
    Calls Tryd.prog 37 #[.agg #[.int .i64 va, .bool ga, .slice pa ta ca], .agg #[.int .i64 vb, .bool gb, .slice pb tb cb]] w fun r w' => ∃ o f, r = .returned (madeZ (na != nb) o (n + m + 1) (trim f (n + m + 1)) f) ∧ Own w' w.heap.size o (n + m + 1) f ∧ (∀ i, f i < 1000000000) ∧ val f (n + m + 1) = val x n * val y m ∧ Below w.heap.size w w' := by
  have hn := RA.len
  have hm := RB.len
  have hx := RA.lt
  have hy := RB.lt
  obtain ⟨i0, hi, hz0, hz1, hz2⟩ := info_parts info23
  go_enter Tryd.func37, Tryd.ntmps37
  go_wp2_with (first | (go_at_call 61; (with_reducible show Calls Tryd.prog 61 #[Value.agg #[Value.int IntKind.i64 va, Value.bool ga, Value.slice pa ta ca]] _ _); refine (RA.sm _ Args.start.below).mono ?_; rintro e w1 ⟨rfl, hb1⟩; have R1 := Args.start.next hb1; obtain ⟨⟨u0, u1, u2⟩, _⟩ := blk3 R1.A; obtain ⟨⟨v0, v1, v2⟩, _⟩ := blk3 R1.B) | (go_at_call 63; (with_reducible show Calls Tryd.prog 63 #[Value.agg #[Value.int IntKind.i64 va, Value.bool ga, Value.slice pa ta ca]] _ _); refine (RA.lm _ R1.below).mono ?_; rintro e w2 ⟨a, ca', rfl, ha, la, hb2⟩; have R2 := R1.next hb2; obtain ⟨⟨x0, x1, x2⟩, _⟩ := blk3 R2.B) | (go_at_call 63; (with_reducible show Calls Tryd.prog 63 #[Value.agg #[Value.int IntKind.i64 vb, Value.bool gb, Value.slice pb tb cb]] _ _); refine (RB.lm _ R2.below).mono ?_; rintro e w3 ⟨b, cb', rfl, hb, lb, hb3⟩; have R3 := R2.next hb3) | (at_make; refine wpList_make_full _ rfl _ _ 22 rfl w3.heap.size 23 i0 (.int .u32 0) 1 Tryd.underlying22 hi hz0 hz1 _ _ _ _ (n + m + 1) rfl rfl (by first | rfl | omega) (by first | rfl | omega) (by rw [hz2]; omega) (by unfold maxLen; omega) (Nat.le_refl _) ?_; intro w4 hown hgrow))
  have O1 : Own w4 w3.heap.size w3.heap.size (n + m + 1) (fun _ => 0) := own_made hown (Nat.le_refl _) (hown.lt _ rfl).2
  have B4 : Below w3.heap.size w3 w4 := (Below.refl _ _).grown hgrow (Nat.le_refl _) (by simp)
  have R4 := R3.next B4
  clear hown hgrow hi hz0 hz1 hz2
  have zz3 := hb3.size
  have la3 : a < w3.heap.size := by omega
  have lb3 : b < w3.heap.size := lb
  have ha3 : Limbs w3 a n x := fun j hj => (hb3.cell (p := ⟨a, j, none⟩) la).trans (ha j hj)
  have hb3' : Limbs w3 b m y := hb
  clear ha hb
  go_loopw [53] (fun iv wr => ∃ i : Nat, i ≤ n ∧ iv = .int .i64 i ∧ ∃ f, Own wr w3.heap.size w3.heap.size (n + m + 1) f ∧ (∀ j, f j < 1000000000) ∧ (∀ j, i + m ≤ j → f j = 0) ∧ Hid (val f (i + m) = val x i * val y m) ∧ Below w3.heap.size w3 wr) (fun iv _ => n - (intOf iv).toNat)
  case atStart => exact ⟨0, by omega, rfl, fun _ => 0, O1, fun _ => by show 0 < 1000000000; decide, fun _ _ => rfl, by show val _ _ = _; rw [val_zeros _ 0 m (fun _ _ _ => rfl)]; simp [val], B4⟩
  case round =>
    obtain ⟨i, hi, rfl, f, OF, f9, fz, HV, BF⟩ := hrel
    by_cases hiN : i < n
    · have hiI : (i : Int) < (n : Int) := by omega
      go_wp2
      go_loopw [11, 58] (fun c kv wr => ∃ k C : Nat, k ≤ m ∧ kv = .int .i64 k ∧ c = .int .u64 C ∧ C < 1000000000 ∧ ∃ g, Own wr w3.heap.size w3.heap.size (n + m + 1) g ∧ (∀ j, g j < 1000000000) ∧ (∀ j, i + k ≤ j → g j = f j) ∧ Hid (val g (i + k) + C * 1000000000 ^ (i + k) = val f (i + k) + x i * val y k * 1000000000 ^ i) ∧ Below w3.heap.size w3 wr) (fun _ kv _ => m - (intOf kv).toNat)
      case atStart => exact ⟨0, 0, by omega, rfl, rfl, by decide, f, OF, f9, fun _ _ => rfl, by show val f (i + 0) + 0 * _ = _; simp [val], BF⟩
      case round =>
        obtain ⟨k, C, hk, rfl, rfl, hC, g, OG, g9, ge, HG, BG⟩ := hrel
        by_cases hkM : k < m
        · have hkI : (k : Int) < (m : Int) := by omega
          obtain ⟨p, hp⟩ : ∃ p, i + k = p := ⟨_, rfl⟩
          have hpI : (i : Int) + (k : Int) = (p : Int) := by omega
          have p0 : (0 : Int) ≤ (p : Int) := by omega
          have p1 : (p : Int) < (n : Int) + (m : Int) + 1 := by omega
          have p2 : (p : Int) < ((n + m + 1 : Nat) : Int) := by omega
          have f0 := OG.free p
          have g0 : wr.cell? ⟨w3.heap.size, p, none⟩ = some (.int .u32 (g p : Int)) := OG.cell p (by omega)
          have i0 : (0 : Int) ≤ (i : Int) := by omega
          have k0 : (0 : Int) ≤ (k : Int) := by omega
          have cx : wr.cell? ⟨a, i, none⟩ = some (.int .u32 (x i : Int)) := (BG.cell (p := ⟨a, i, none⟩) la3).trans (ha3 i hiN)
          have cy : wr.cell? ⟨b, k, none⟩ = some (.int .u32 (y k : Int)) := (BG.cell (p := ⟨b, k, none⟩) lb3).trans (hb3' k hkM)
          have xb := hx i
          have yb := hy k
          have gb := g9 p
          have MB := mul_bound (g p) (y k) C (x i) gb yb hC xb
          obtain ⟨P, hP⟩ : ∃ P, x i * y k = P := ⟨_, rfl⟩
          rw [hP] at MB
          have hPI : (x i : Int) * (y k : Int) = (P : Int) := by rw [← hP]; push_cast; rfl
          have HP : Hid (x i * y k = P) := hP
          have Hp : Hid (i + k = p) := hp
          have HMI : Hid (val (put g p ((g p + P + C) % 1000000000)) (i + (k + 1)) + (g p + P + C) / 1000000000 * 1000000000 ^ (i + (k + 1)) = val f (i + (k + 1)) + x i * val y (k + 1) * 1000000000 ^ i) := by
            have := mul_inner f g y i k (x i) C (g p + P + C) (by rw [hP, hp]) (ge _ (Nat.le_refl _)) HG.out
            rw [hp] at this
            exact this
          obtain ⟨mb1, mb2⟩ := MB
          clear hP hp
          go_wp2
          go_quiet (fail)
          go_wp2
          go_roundw
          case rel => exact ⟨k + 1, (g p + P + C) / 1000000000, by omega, by go_num, by first | rfl | go_num, mb2, put g p ((g p + P + C) % 1000000000), (OG.drewN _).set' p ((g p + P + C) % 1000000000) _ (by omega) (by omega) (fun j hj => rfl), fun j => by unfold put; split; omega; exact g9 j, fun j hj => by have := Hp.out; unfold put; rw [if_neg (by omega)]; exact ge j (by omega), HMI, (below_drewN BG _).setCell (Nat.le_refl _) _⟩
          case measure => simp [intOf]; omega
        · have hkk : k = m := by omega
          subst hkk
          obtain ⟨p, hp⟩ : ∃ p, i + k = p := ⟨_, rfl⟩
          have hpI : (i : Int) + (k : Int) = (p : Int) := by omega
          have p0 : (0 : Int) ≤ (p : Int) := by omega
          have p1 : (p : Int) < (n : Int) + (k : Int) + 1 := by omega
          have p2 : (p : Int) < ((n + k + 1 : Nat) : Int) := by omega
          have f0 := OG.free p
          have g0 : wr.cell? ⟨w3.heap.size, p, none⟩ = some (.int .u32 (g p : Int)) := OG.cell p (by omega)
          have HO : Hid (val (put g p C) (i + 1 + k) = val x (i + 1) * val y k) := by
            have := mul_outer f g x y i k C HV.out HG.out
            rw [hp] at this
            exact this
          have Hp : Hid (i + k = p) := hp
          clear hp
          go_wp2
          go_roundw
          case rel => exact ⟨i + 1, by omega, by go_num, put g p C, OG.set' p C _ (by first | rfl | omega) (by omega) (fun j hj => rfl), fun j => by unfold put; split; omega; exact g9 j, fun j hj => by have := Hp.out; unfold put; rw [if_neg (by omega)]; rw [ge j (by omega)]; exact fz j (by omega), HO, BG.setCell (Nat.le_refl _) _⟩
          case measure => simp [intOf]; omega
    · have hin : i = n := by omega
      subst hin
      have R5 := R3.next BF
      obtain ⟨⟨s0, s1, s2⟩, _⟩ := blk3 R5.A
      obtain ⟨⟨r0, r1, r2⟩, _⟩ := blk3 R5.B
      have HVV : Hid (val f (i + m + 1) = val x i * val y m) := by
        show val f (i + m + 1) = _
        rw [val_zeros f (i + m) 1 (fun j h1 _ => fz j h1)]; exact HV.out
      go_wp2
      go_region_with (first | (go_at_call 65; (with_reducible show Calls Tryd.prog 65 #[Value.agg #[Value.int IntKind.i64 va, Value.bool ga, Value.slice pa ta ca]] _ _); refine (RA.ng _ R5.drew.below).mono ?_; rintro e w6 ⟨rfl, hb6⟩; have R6 := R5.drew.next hb6; have O6 := OF.drew.next hb6; obtain ⟨⟨t0, t1, t2⟩, _⟩ := blk3 R6.B) | (go_at_call 65; (with_reducible show Calls Tryd.prog 65 #[Value.agg #[Value.int IntKind.i64 vb, Value.bool gb, Value.slice pb tb cb]] _ _); refine (RB.ng _ R6.below).mono ?_; rintro e w7 ⟨rfl, hb7⟩; have R7 := R6.next hb7; have O7 := O6.next hb7) | (go_at_call 64; refine (make_any _ (i + m + 1) w3.heap.size (i + m + 1) f _ (by omega) (Nat.le_refl _) O7.cell O7.hi f9).mono ?_; rintro e w8 ⟨he, hb8⟩; obtain ⟨V, N, S, L, CC, hM⟩ := madeZ_parts (na != nb) w3.heap.size (i + m + 1) (trim f (i + m + 1)) f; have HM : Hid (_ = _) := hM; (have he2 := he.trans (congrArg Ending.returned hM)); clear he hM; subst he2; have R8 := R7.next hb8; have O8 := O7.next hb8; obtain ⟨⟨z0, z1, z2⟩, z3, z4, z5⟩ := blk3 R8.Z))
      all_goals
        have big := R3.big
        have O9 := ((O8.other (w.heap.size + 1 + 1) 0 (.int .i64 V) (by omega)).other (w.heap.size + 1 + 1) 1 (.bool N) (by omega)).other (w.heap.size + 1 + 1) 2 (.slice S L CC) (by omega)
        have B9 := ((R8.below.setCell (p := ⟨w.heap.size + 1 + 1, 0, none⟩) (by simp; omega) (.int .i64 V)).setCell (p := ⟨w.heap.size + 1 + 1, 1, none⟩) (by simp; omega) (.bool N)).setCell (p := ⟨w.heap.size + 1 + 1, 2, none⟩) (by simp; omega) (.slice S L CC)
        go_wp2
        exact bodyPost_ret (v := .agg #[.int .i64 V, .bool N, .slice S L CC]) (by simp [results, Tryd.results37, go_sem, z0, z1, z2]) rfl ⟨w3.heap.size, f, by rw [HM.out], ⟨O9.cell, O9.free, by omega, O9.hi⟩, f9, HVV.out, B9⟩
set_option maxRecDepth 100000 in
set_option maxHeartbeats 2000000 in
theorem rMul_small (na nb : Bool) (n m : Nat) (x y : Nat → Nat) (va vb : Int) (ga gb : Bool) (pa pb : Option Addr) (ta ca tb cb : Nat) (w : World)
    (RA : Rep w (.agg #[.int .i64 va, .bool ga, .slice pa ta ca]) true na n x) (RB : Rep w (.agg #[.int .i64 vb, .bool gb, .slice pb tb cb]) false nb m y) :
    Calls Tryd.prog 37 #[.agg #[.int .i64 va, .bool ga, .slice pa ta ca], .agg #[.int .i64 vb, .bool gb, .slice pb tb cb]] w fun r w' => ∃ o f, r = .returned (madeZ (na != nb) o (n + m + 1) (trim f (n + m + 1)) f) ∧ Own w' w.heap.size o (n + m + 1) f ∧ (∀ i, f i < 1000000000) ∧ val f (n + m + 1) = val x n * val y m ∧ Below w.heap.size w w' := by
  have hn := RA.len
  have hm := RB.len
  have hx := RA.lt
  have hy := RB.lt
  obtain ⟨i0, hi, hz0, hz1, hz2⟩ := info_parts info23
  go_enter Tryd.func37, Tryd.ntmps37
  go_wp2_with (first | (go_at_call 61; (with_reducible show Calls Tryd.prog 61 #[Value.agg #[Value.int IntKind.i64 va, Value.bool ga, Value.slice pa ta ca]] _ _); refine (RA.sm _ Args.start.below).mono ?_; rintro e w1 ⟨rfl, hb1⟩; have R1 := Args.start.next hb1; obtain ⟨⟨u0, u1, u2⟩, _⟩ := blk3 R1.A; obtain ⟨⟨v0, v1, v2⟩, _⟩ := blk3 R1.B) | (go_at_call 61; (with_reducible show Calls Tryd.prog 61 #[Value.agg #[Value.int IntKind.i64 vb, Value.bool gb, Value.slice pb tb cb]] _ _); refine (RB.sm _ R1.below).mono ?_; rintro e w1b ⟨rfl, hb1b⟩; have R1b := R1.next hb1b; obtain ⟨⟨y0, y1, y2⟩, _⟩ := blk3 R1b.A) | (go_at_call 63; (with_reducible show Calls Tryd.prog 63 #[Value.agg #[Value.int IntKind.i64 va, Value.bool ga, Value.slice pa ta ca]] _ _); refine (RA.lm _ R1b.below).mono ?_; rintro e w2 ⟨a, ca', rfl, ha, la, hb2⟩; have R2 := R1b.next hb2; obtain ⟨⟨x0, x1, x2⟩, _⟩ := blk3 R2.B) | (go_at_call 63; (with_reducible show Calls Tryd.prog 63 #[Value.agg #[Value.int IntKind.i64 vb, Value.bool gb, Value.slice pb tb cb]] _ _); refine (RB.lm _ R2.below).mono ?_; rintro e w3 ⟨b, cb', rfl, hb, lb, hb3⟩; have R3 := R2.next hb3) | (at_make; refine wpList_make_full _ rfl _ _ 22 rfl w3.heap.size 23 i0 (.int .u32 0) 1 Tryd.underlying22 hi hz0 hz1 _ _ _ _ (n + m + 1) rfl rfl (by first | rfl | omega) (by first | rfl | omega) (by rw [hz2]; omega) (by unfold maxLen; omega) (Nat.le_refl _) ?_; intro w4 hown hgrow))
  have O1 : Own w4 w3.heap.size w3.heap.size (n + m + 1) (fun _ => 0) := own_made hown (Nat.le_refl _) (hown.lt _ rfl).2
  have B4 : Below w3.heap.size w3 w4 := (Below.refl _ _).grown hgrow (Nat.le_refl _) (by simp)
  have R4 := R3.next B4
  clear hown hgrow hi hz0 hz1 hz2
  have zz3 := hb3.size
  have la3 : a < w3.heap.size := by omega
  have lb3 : b < w3.heap.size := lb
  have ha3 : Limbs w3 a n x := fun j hj => (hb3.cell (p := ⟨a, j, none⟩) la).trans (ha j hj)
  have hb3' : Limbs w3 b m y := hb
  clear ha hb
  go_loopw [53] (fun iv wr => ∃ i : Nat, i ≤ n ∧ iv = .int .i64 i ∧ ∃ f, Own wr w3.heap.size w3.heap.size (n + m + 1) f ∧ (∀ j, f j < 1000000000) ∧ (∀ j, i + m ≤ j → f j = 0) ∧ Hid (val f (i + m) = val x i * val y m) ∧ Below w3.heap.size w3 wr) (fun iv _ => n - (intOf iv).toNat)
  case atStart => exact ⟨0, by omega, rfl, fun _ => 0, O1, fun _ => by show 0 < 1000000000; decide, fun _ _ => rfl, by show val _ _ = _; rw [val_zeros _ 0 m (fun _ _ _ => rfl)]; simp [val], B4⟩
  case round =>
    obtain ⟨i, hi, rfl, f, OF, f9, fz, HV, BF⟩ := hrel
    by_cases hiN : i < n
    · have hiI : (i : Int) < (n : Int) := by omega
      go_wp2
      go_loopw [11, 58] (fun c kv wr => ∃ k C : Nat, k ≤ m ∧ kv = .int .i64 k ∧ c = .int .u64 C ∧ C < 1000000000 ∧ ∃ g, Own wr w3.heap.size w3.heap.size (n + m + 1) g ∧ (∀ j, g j < 1000000000) ∧ (∀ j, i + k ≤ j → g j = f j) ∧ Hid (val g (i + k) + C * 1000000000 ^ (i + k) = val f (i + k) + x i * val y k * 1000000000 ^ i) ∧ Below w3.heap.size w3 wr) (fun _ kv _ => m - (intOf kv).toNat)
      case atStart => exact ⟨0, 0, by omega, rfl, rfl, by decide, f, OF, f9, fun _ _ => rfl, by show val f (i + 0) + 0 * _ = _; simp [val], BF⟩
      case round =>
        obtain ⟨k, C, hk, rfl, rfl, hC, g, OG, g9, ge, HG, BG⟩ := hrel
        by_cases hkM : k < m
        · have hkI : (k : Int) < (m : Int) := by omega
          obtain ⟨p, hp⟩ : ∃ p, i + k = p := ⟨_, rfl⟩
          have hpI : (i : Int) + (k : Int) = (p : Int) := by omega
          have p0 : (0 : Int) ≤ (p : Int) := by omega
          have p1 : (p : Int) < (n : Int) + (m : Int) + 1 := by omega
          have p2 : (p : Int) < ((n + m + 1 : Nat) : Int) := by omega
          have f0 := OG.free p
          have g0 : wr.cell? ⟨w3.heap.size, p, none⟩ = some (.int .u32 (g p : Int)) := OG.cell p (by omega)
          have i0 : (0 : Int) ≤ (i : Int) := by omega
          have k0 : (0 : Int) ≤ (k : Int) := by omega
          have cx : wr.cell? ⟨a, i, none⟩ = some (.int .u32 (x i : Int)) := (BG.cell (p := ⟨a, i, none⟩) la3).trans (ha3 i hiN)
          have cy : wr.cell? ⟨b, k, none⟩ = some (.int .u32 (y k : Int)) := (BG.cell (p := ⟨b, k, none⟩) lb3).trans (hb3' k hkM)
          have xb := hx i
          have yb := hy k
          have gb := g9 p
          have MB := mul_bound (g p) (y k) C (x i) gb yb hC xb
          obtain ⟨P, hP⟩ : ∃ P, x i * y k = P := ⟨_, rfl⟩
          rw [hP] at MB
          have hPI : (x i : Int) * (y k : Int) = (P : Int) := by rw [← hP]; push_cast; rfl
          have HP : Hid (x i * y k = P) := hP
          have Hp : Hid (i + k = p) := hp
          have HMI : Hid (val (put g p ((g p + P + C) % 1000000000)) (i + (k + 1)) + (g p + P + C) / 1000000000 * 1000000000 ^ (i + (k + 1)) = val f (i + (k + 1)) + x i * val y (k + 1) * 1000000000 ^ i) := by
            have := mul_inner f g y i k (x i) C (g p + P + C) (by rw [hP, hp]) (ge _ (Nat.le_refl _)) HG.out
            rw [hp] at this
            exact this
          obtain ⟨mb1, mb2⟩ := MB
          clear hP hp
          go_wp2
          go_quiet (fail)
          go_wp2
          go_roundw
          case rel => exact ⟨k + 1, (g p + P + C) / 1000000000, by omega, by go_num, by first | rfl | go_num, mb2, put g p ((g p + P + C) % 1000000000), (OG.drewN _).set' p ((g p + P + C) % 1000000000) _ (by omega) (by omega) (fun j hj => rfl), fun j => by unfold put; split; omega; exact g9 j, fun j hj => by have := Hp.out; unfold put; rw [if_neg (by omega)]; exact ge j (by omega), HMI, (below_drewN BG _).setCell (Nat.le_refl _) _⟩
          case measure => simp [intOf]; omega
        · have hkk : k = m := by omega
          subst hkk
          obtain ⟨p, hp⟩ : ∃ p, i + k = p := ⟨_, rfl⟩
          have hpI : (i : Int) + (k : Int) = (p : Int) := by omega
          have p0 : (0 : Int) ≤ (p : Int) := by omega
          have p1 : (p : Int) < (n : Int) + (k : Int) + 1 := by omega
          have p2 : (p : Int) < ((n + k + 1 : Nat) : Int) := by omega
          have f0 := OG.free p
          have g0 : wr.cell? ⟨w3.heap.size, p, none⟩ = some (.int .u32 (g p : Int)) := OG.cell p (by omega)
          have HO : Hid (val (put g p C) (i + 1 + k) = val x (i + 1) * val y k) := by
            have := mul_outer f g x y i k C HV.out HG.out
            rw [hp] at this
            exact this
          have Hp : Hid (i + k = p) := hp
          clear hp
          go_wp2
          go_roundw
          case rel => exact ⟨i + 1, by omega, by go_num, put g p C, OG.set' p C _ (by first | rfl | omega) (by omega) (fun j hj => rfl), fun j => by unfold put; split; omega; exact g9 j, fun j hj => by have := Hp.out; unfold put; rw [if_neg (by omega)]; rw [ge j (by omega)]; exact fz j (by omega), HO, BG.setCell (Nat.le_refl _) _⟩
          case measure => simp [intOf]; omega
    · have hin : i = n := by omega
      subst hin
      have R5 := R3.next BF
      obtain ⟨⟨s0, s1, s2⟩, _⟩ := blk3 R5.A
      obtain ⟨⟨r0, r1, r2⟩, _⟩ := blk3 R5.B
      have HVV : Hid (val f (i + m + 1) = val x i * val y m) := by
        show val f (i + m + 1) = _
        rw [val_zeros f (i + m) 1 (fun j h1 _ => fz j h1)]; exact HV.out
      go_wp2
      go_region_with (first | (go_at_call 65; (with_reducible show Calls Tryd.prog 65 #[Value.agg #[Value.int IntKind.i64 va, Value.bool ga, Value.slice pa ta ca]] _ _); refine (RA.ng _ R5.drew.below).mono ?_; rintro e w6 ⟨rfl, hb6⟩; have R6 := R5.drew.next hb6; have O6 := OF.drew.next hb6; obtain ⟨⟨t0, t1, t2⟩, _⟩ := blk3 R6.B) | (go_at_call 65; (with_reducible show Calls Tryd.prog 65 #[Value.agg #[Value.int IntKind.i64 vb, Value.bool gb, Value.slice pb tb cb]] _ _); refine (RB.ng _ R6.below).mono ?_; rintro e w7 ⟨rfl, hb7⟩; have R7 := R6.next hb7; have O7 := O6.next hb7) | (go_at_call 64; refine (make_any _ (i + m + 1) w3.heap.size (i + m + 1) f _ (by omega) (Nat.le_refl _) O7.cell O7.hi f9).mono ?_; rintro e w8 ⟨he, hb8⟩; obtain ⟨V, N, S, L, CC, hM⟩ := madeZ_parts (na != nb) w3.heap.size (i + m + 1) (trim f (i + m + 1)) f; have HM : Hid (_ = _) := hM; (have he2 := he.trans (congrArg Ending.returned hM)); clear he hM; subst he2; have R8 := R7.next hb8; have O8 := O7.next hb8; obtain ⟨⟨z0, z1, z2⟩, z3, z4, z5⟩ := blk3 R8.Z))
      all_goals
        have big := R3.big
        have O9 := ((O8.other (w.heap.size + 1 + 1) 0 (.int .i64 V) (by omega)).other (w.heap.size + 1 + 1) 1 (.bool N) (by omega)).other (w.heap.size + 1 + 1) 2 (.slice S L CC) (by omega)
        have B9 := ((R8.below.setCell (p := ⟨w.heap.size + 1 + 1, 0, none⟩) (by simp; omega) (.int .i64 V)).setCell (p := ⟨w.heap.size + 1 + 1, 1, none⟩) (by simp; omega) (.bool N)).setCell (p := ⟨w.heap.size + 1 + 1, 2, none⟩) (by simp; omega) (.slice S L CC)
        go_wp2
        exact bodyPost_ret (v := .agg #[.int .i64 V, .bool N, .slice S L CC]) (by simp [results, Tryd.results37, go_sem, z0, z1, z2]) rfl ⟨w3.heap.size, f, by rw [HM.out], ⟨O9.cell, O9.free, by omega, O9.hi⟩, f9, HVV.out, B9⟩
end Go.Proofs.YtoloenkcfpfgcaaDoor
