/- The program's edgedLevel and FetchColor. -/
import Derived.Test.YthkngcdfnemhaaaAn
namespace Go.Proofs.Ythkngcdfnemhaaa
open Go.ChangeShapes Go.WideShapes Go.ChangeAt Go.RowKit
set_option linter.unusedVariables false
theorem fmV_is {l : Int} (h : fmB l = true) : ∃ t, fmV l = .iface t (.agg #[]) := by
  rcases fm_cases l with rfl | rfl | rfl | h1
  · exact ⟨_, rfl⟩
  · exact ⟨_, rfl⟩
  · exact ⟨_, rfl⟩
  · rw [(fm_no h1).2.1] at h; cases h
set_option maxRecDepth 100000 in
set_option maxHeartbeats 4000000 in
theorem pedged_no (s y l : Int) (v : Value) (n : Nat) (F : Nat → List Int) (k e : Int) (c : Col) (w : World) (R : BRows w v n F) (hn : n ≤ 1048576) (hfl : ∀ x, x < n → (F x).length ≤ 1048576) (hb : fcB s y l n F k e c = false) : Calls Try.prog 63 #[.agg #[.int .i64 s, .int .i64 y, .int .i64 l, v], .int .i64 k, .int .i64 e, .agg #[.int .i64 c.r, .int .i64 c.g, .int .i64 c.b, .int .i64 c.a]] w fun e' w' => e' = .returned (.tuple #[.agg #[.int .i64 0, .int .i64 0, .nilIface, .slice none 0 0, .int .i64 0, .int .i64 0, .int .i64 0, .int .i64 0, .int .i64 0], .bool false]) ∧ Below w.heap.size w w' := by
  have HM : Hid (∀ w', Below w.heap.size w w' → Calls Try.prog 26 #[.agg #[.int .i64 s, .int .i64 y, .int .i64 l, v]] w' fun e w'' => e = .returned (.bool (gtB s y l n F)) ∧ Below w'.heap.size w' w'') := fun w' b => pgoodT s y l v n F w' (R.next b) hn hfl
  have HE : Hid (∀ w : World, Calls Try.prog 81 #[.int .i64 e, .agg #[.int .i64 c.r, .int .i64 c.g, .int .i64 c.b, .int .i64 c.a]] w fun x w' => x = .returned (.bool (egB e c.r c.g c.b c.a)) ∧ Below w.heap.size w w') := fun w => pedge e c.r c.g c.b c.a w
  obtain ⟨ad, cp, rfl, _⟩ := R
  have HALL : Hid (∀ w', Below (((w.alloc (.cells #[.int .i64 s, .int .i64 y, .int .i64 l, .slice ad n cp] 43)).alloc (.cells #[.int .i64 c.r, .int .i64 c.g, .int .i64 c.b, .int .i64 c.a] 25)).alloc (.cells #[.int .i64 0, .int .i64 0, .nilIface, .slice none 0 0, .int .i64 0, .int .i64 0, .int .i64 0, .int .i64 0, .int .i64 0] 87)).heap.size (((w.alloc (.cells #[.int .i64 s, .int .i64 y, .int .i64 l, .slice ad n cp] 43)).alloc (.cells #[.int .i64 c.r, .int .i64 c.g, .int .i64 c.b, .int .i64 c.a] 25)).alloc (.cells #[.int .i64 0, .int .i64 0, .nilIface, .slice none 0 0, .int .i64 0, .int .i64 0, .int .i64 0, .int .i64 0, .int .i64 0] 87)) w' → Hid (Below w.heap.size w w') ∧ C4 w' w.heap.size (.int .i64 s) (.int .i64 y) (.int .i64 l) (.slice ad n cp) ∧ C4 w' (w.heap.size + 1) (.int .i64 c.r) (.int .i64 c.g) (.int .i64 c.b) (.int .i64 c.a) ∧ C9 w' (w.heap.size + 1 + 1) (.int .i64 0) (.int .i64 0) (.nilIface) (.slice none 0 0) (.int .i64 0) (.int .i64 0) (.int .i64 0) (.int .i64 0) (.int .i64 0)) := fun w' b => ⟨(b3 (o1 := (.cells #[.int .i64 s, .int .i64 y, .int .i64 l, .slice ad n cp] 43)) (o2 := (.cells #[.int .i64 c.r, .int .i64 c.g, .int .i64 c.b, .int .i64 c.a] 25)) (o3 := (.cells #[.int .i64 0, .int .i64 0, .nilIface, .slice none 0 0, .int .i64 0, .int .i64 0, .int .i64 0, .int .i64 0, .int .i64 0] 87))).trans (b.mono (b3 (o1 := (.cells #[.int .i64 s, .int .i64 y, .int .i64 l, .slice ad n cp] 43)) (o2 := (.cells #[.int .i64 c.r, .int .i64 c.g, .int .i64 c.b, .int .i64 c.a] 25)) (o3 := (.cells #[.int .i64 0, .int .i64 0, .nilIface, .slice none 0 0, .int .i64 0, .int .i64 0, .int .i64 0, .int .i64 0, .int .i64 0] 87))).size), (((C4.new w 43 (.int .i64 s) (.int .i64 y) (.int .i64 l) (.slice ad n cp)).next (alloc_b (o := (.cells #[.int .i64 c.r, .int .i64 c.g, .int .i64 c.b, .int .i64 c.a] 25)))).next (alloc_b (o := (.cells #[.int .i64 0, .int .i64 0, .nilIface, .slice none 0 0, .int .i64 0, .int .i64 0, .int .i64 0, .int .i64 0, .int .i64 0] 87)))).next b, by
    have h := ((C4.new (w.alloc (.cells #[.int .i64 s, .int .i64 y, .int .i64 l, .slice ad n cp] 43)) 25 (.int .i64 c.r) (.int .i64 c.g) (.int .i64 c.b) (.int .i64 c.a)).next (alloc_b (o := (.cells #[.int .i64 0, .int .i64 0, .nilIface, .slice none 0 0, .int .i64 0, .int .i64 0, .int .i64 0, .int .i64 0, .int .i64 0] 87)))).next b
    rwa [World.size_alloc] at h, by
    have h := (C9.new ((w.alloc (.cells #[.int .i64 s, .int .i64 y, .int .i64 l, .slice ad n cp] 43)).alloc (.cells #[.int .i64 c.r, .int .i64 c.g, .int .i64 c.b, .int .i64 c.a] 25)) 87 (.int .i64 0) (.int .i64 0) (.nilIface) (.slice none 0 0) (.int .i64 0) (.int .i64 0) (.int .i64 0) (.int .i64 0) (.int .i64 0)).next b
    rwa [World.size_alloc, World.size_alloc] at h⟩
  have HB3 : Hid (Below w.heap.size w (((w.alloc (.cells #[.int .i64 s, .int .i64 y, .int .i64 l, .slice ad n cp] 43)).alloc (.cells #[.int .i64 c.r, .int .i64 c.g, .int .i64 c.b, .int .i64 c.a] 25)).alloc (.cells #[.int .i64 0, .int .i64 0, .nilIface, .slice none 0 0, .int .i64 0, .int .i64 0, .int .i64 0, .int .i64 0, .int .i64 0] 87))) := b3
  have hno : gtB s y l n F = false ∨ gtB s y l n F = true ∧ k < 0 ∨ gtB s y l n F = true ∧ 0 ≤ k ∧ (n : Int) ≤ k ∨ gtB s y l n F = true ∧ 0 ≤ k ∧ k < (n : Int) ∧ egB e c.r c.g c.b c.a = false := by
    unfold fcB at hb
    cases h1 : gtB s y l n F
    · exact Or.inl rfl
    · rw [h1] at hb
      by_cases h2 : k < 0
      · exact Or.inr (Or.inl ⟨rfl, h2⟩)
      · by_cases h3 : (n : Int) ≤ k
        · exact Or.inr (Or.inr (Or.inl ⟨rfl, by omega, h3⟩))
        · rw [decide_eq_true (show 0 ≤ k by omega), decide_eq_true (show k < (n : Int) by omega)] at hb
          refine Or.inr (Or.inr (Or.inr ⟨rfl, by omega, by omega, ?_⟩))
          simpa using hb
  clear hb
  generalize gtB s y l n F = GB at HM hno
  generalize egB e c.r c.g c.b c.a = EB at HE hno
  rcases hno with rfl | ⟨rfl, k0⟩ | ⟨rfl, k0, k1⟩ | ⟨rfl, k0, k1, rfl⟩
  case inr.inr.inr =>
    go_enter Try.func63, Try.ntmps63
    go_wp2_with (first | (go_at_call 26; refine (HM.out _ HB3.out).mono ?_; rintro e9 w2 ⟨rfl, B2⟩; (obtain ⟨BXX, T2, K2, DX⟩ := HALL.out w2 B2); (have t0 := T2.c0); (have t1 := T2.c1); (have t2 := T2.c2); (have t3 := T2.c3); (have tf := T2.f); (have k0 := K2.c0); (have k1 := K2.c1); (have k2 := K2.c2); (have k3 := K2.c3); (have kf := K2.f); (have x0 := DX.c0); (have x1 := DX.c1); (have x2 := DX.c2); (have x3 := DX.c3); (have x4 := DX.c4); (have x5 := DX.c5); (have x6 := DX.c6); (have x7 := DX.c7); (have x8 := DX.c8); (have xf := DX.f)) | (go_at_call 81; refine (HE.out _).mono ?_; rintro e9 w3 ⟨rfl, B3⟩; (have T2 := T2.next B3); (have K2 := K2.next B3); (have DX := DX.next B3); (have BXX := BXX.out.trans (B3.mono BXX.out.size)); (have t0 := T2.c0); (have t1 := T2.c1); (have t2 := T2.c2); (have t3 := T2.c3); (have tf := T2.f); (have k0 := K2.c0); (have k1 := K2.c1); (have k2 := K2.c2); (have k3 := K2.c3); (have kf := K2.f); (have x0 := DX.c0); (have x1 := DX.c1); (have x2 := DX.c2); (have x3 := DX.c3); (have x4 := DX.c4); (have x5 := DX.c5); (have x6 := DX.c6); (have x7 := DX.c7); (have x8 := DX.c8); (have xf := DX.f)))
    clear x0 x1 x2 x3 x4 x5 x6 x7 x8 xf
    have E6 := DX.put (.int .i64 0) (.int .i64 0) (.nilIface) (.slice none 0 0) (.int .i64 0) (.int .i64 0) (.int .i64 0) (.int .i64 0) (.int .i64 0)
    have B06 : Below w.heap.size w (set9 w3 (w.heap.size + 1 + 1) (.int .i64 0) (.int .i64 0) (.nilIface) (.slice none 0 0) (.int .i64 0) (.int .i64 0) (.int .i64 0) (.int .i64 0) (.int .i64 0)) := BXX.trans ((only_set9 w3 (w.heap.size + 1 + 1) _ _ _ _ _ _ _ _ _).below (by omega) BXX.size)
    unfold set9 at E6 B06
    have r0 := E6.c0
    have r1 := E6.c1
    have r2 := E6.c2
    have r3 := E6.c3
    have r4 := E6.c4
    have r5 := E6.c5
    have r6 := E6.c6
    have r7 := E6.c7
    have r8 := E6.c8
    exact bodyPost_ret (v := .tuple #[.agg #[.int .i64 0, .int .i64 0, .nilIface, .slice none 0 0, .int .i64 0, .int .i64 0, .int .i64 0, .int .i64 0, .int .i64 0], .bool false]) (by simp [results, Try.results63, go_sem, r0, r1, r2, r3, r4, r5, r6, r7, r8]) rfl ⟨rfl, B06⟩
  all_goals
    go_enter Try.func63, Try.ntmps63
    go_wp2_with (go_at_call 26; refine (HM.out _ HB3.out).mono ?_; rintro e9 w2 ⟨rfl, B2⟩; (obtain ⟨BXX, T2, K2, DX⟩ := HALL.out w2 B2); (have t0 := T2.c0); (have t1 := T2.c1); (have t2 := T2.c2); (have t3 := T2.c3); (have tf := T2.f); (have k0 := K2.c0); (have k1 := K2.c1); (have k2 := K2.c2); (have k3 := K2.c3); (have kf := K2.f); (have x0 := DX.c0); (have x1 := DX.c1); (have x2 := DX.c2); (have x3 := DX.c3); (have x4 := DX.c4); (have x5 := DX.c5); (have x6 := DX.c6); (have x7 := DX.c7); (have x8 := DX.c8); (have xf := DX.f))
    clear x0 x1 x2 x3 x4 x5 x6 x7 x8 xf
    have E6 := DX.put (.int .i64 0) (.int .i64 0) (.nilIface) (.slice none 0 0) (.int .i64 0) (.int .i64 0) (.int .i64 0) (.int .i64 0) (.int .i64 0)
    have B06 : Below w.heap.size w (set9 w2 (w.heap.size + 1 + 1) (.int .i64 0) (.int .i64 0) (.nilIface) (.slice none 0 0) (.int .i64 0) (.int .i64 0) (.int .i64 0) (.int .i64 0) (.int .i64 0)) := BXX.out.trans ((only_set9 w2 (w.heap.size + 1 + 1) _ _ _ _ _ _ _ _ _).below (by omega) BXX.out.size)
    unfold set9 at E6 B06
    have r0 := E6.c0
    have r1 := E6.c1
    have r2 := E6.c2
    have r3 := E6.c3
    have r4 := E6.c4
    have r5 := E6.c5
    have r6 := E6.c6
    have r7 := E6.c7
    have r8 := E6.c8
    exact bodyPost_ret (v := .tuple #[.agg #[.int .i64 0, .int .i64 0, .nilIface, .slice none 0 0, .int .i64 0, .int .i64 0, .int .i64 0, .int .i64 0, .int .i64 0], .bool false]) (by simp [results, Try.results63, go_sem, r0, r1, r2, r3, r4, r5, r6, r7, r8]) rfl ⟨rfl, B06⟩
set_option maxRecDepth 100000 in
set_option maxHeartbeats 4000000 in
theorem pedged_ok (s y l : Int) (v : Value) (n k : Nat) (F : Nat → List Int) (e : Int) (c : Col) (w : World) (R : BRows w v n F) (hn : n ≤ 1048576) (hfl : ∀ x, x < n → (F x).length ≤ 1048576) (hg : gtB s y l n F = true) (hk : k < n) (he : egB e c.r c.g c.b c.a = true) : Calls Try.prog 63 #[.agg #[.int .i64 s, .int .i64 y, .int .i64 l, v], .int .i64 (k : Int), .int .i64 e, .agg #[.int .i64 c.r, .int .i64 c.g, .int .i64 c.b, .int .i64 c.a]] w fun e' w' => ∃ u, e' = .returned (.tuple #[.agg #[.int .i64 (sdI s k), .int .i64 (sdI y k), fmV l, u, .int .i64 e, .int .i64 c.r, .int .i64 c.g, .int .i64 c.b, .int .i64 c.a], .bool true]) ∧ BRow w' u (F k) ∧ Below w.heap.size w w' := by
  have HM : Hid (∀ w', Below w.heap.size w w' → Calls Try.prog 26 #[.agg #[.int .i64 s, .int .i64 y, .int .i64 l, v]] w' fun e w'' => e = .returned (.bool true) ∧ Below w'.heap.size w' w'') := fun w' b => by have h := pgoodT s y l v n F w' (R.next b) hn hfl; rwa [hg] at h
  have HE : Hid (∀ w : World, Calls Try.prog 81 #[.int .i64 e, .agg #[.int .i64 c.r, .int .i64 c.g, .int .i64 c.b, .int .i64 c.a]] w fun x w' => x = .returned (.bool true) ∧ Below w.heap.size w w') := fun w => by have h := pedge e c.r c.g c.b c.a w; rwa [he] at h
  obtain ⟨gs1, gs2, hfb, hnl, _⟩ := (gt_iff s y l n F).1 hg
  have k5 : k < 5 := by have := lcN_le s y; omega
  have HFO : Hid (∀ w, Calls Try.prog 43 #[.int .i64 l] w fun e w' => e = .returned (.tuple #[fmV l, .bool true]) ∧ w' = w) := fun w => by have h := fmt43 l w; rwa [hfb] at h
  have HA : Hid (∀ w, Calls Try.prog 53 #[.int .i64 s, .int .i64 (k : Int)] w fun e w' => e = .returned (.int .i64 (sdI s k)) ∧ w' = w) := fun w => sideat53 s k w gs1 k5
  have HB : Hid (∀ w, Calls Try.prog 53 #[.int .i64 y, .int .i64 (k : Int)] w fun e w' => e = .returned (.int .i64 (sdI y k)) ∧ w' = w) := fun w => sideat53 y k w gs2 k5
  generalize sdI s k = A at HA ⊢
  generalize sdI y k = B at HB ⊢
  obtain ⟨ft, hft⟩ := fmV_is hfb
  rw [hft] at HFO ⊢
  obtain ⟨ad, cp, rfl, h⟩ := R
  obtain ⟨q, o, u, rfl, hc, hrow⟩ := h k hk
  obtain ⟨ra, rc, rfl, _⟩ := id hrow
  have HROW : Hid (∀ w', Below w.heap.size w w' → BRow w' (.slice ra (F k).length rc) (F k)) := fun w' b => hrow.next b
  have HCC : Hid (∀ w', Below w.heap.size w w' → w'.cell? ⟨q, o + k, none⟩ = some (.slice ra (F k).length rc)) := fun w' b => cell_nx hc b
  clear h hrow hc hnl hg he hfl hfb hft
  have HALL : Hid (∀ w', Below (((w.alloc (.cells #[.int .i64 s, .int .i64 y, .int .i64 l, .slice (some ⟨q, o, none⟩) n cp] 43)).alloc (.cells #[.int .i64 c.r, .int .i64 c.g, .int .i64 c.b, .int .i64 c.a] 25)).alloc (.cells #[.int .i64 0, .int .i64 0, .nilIface, .slice none 0 0, .int .i64 0, .int .i64 0, .int .i64 0, .int .i64 0, .int .i64 0] 87)).heap.size (((w.alloc (.cells #[.int .i64 s, .int .i64 y, .int .i64 l, .slice (some ⟨q, o, none⟩) n cp] 43)).alloc (.cells #[.int .i64 c.r, .int .i64 c.g, .int .i64 c.b, .int .i64 c.a] 25)).alloc (.cells #[.int .i64 0, .int .i64 0, .nilIface, .slice none 0 0, .int .i64 0, .int .i64 0, .int .i64 0, .int .i64 0, .int .i64 0] 87)) w' → Hid (Below w.heap.size w w') ∧ C4 w' w.heap.size (.int .i64 s) (.int .i64 y) (.int .i64 l) (.slice (some ⟨q, o, none⟩) n cp) ∧ C4 w' (w.heap.size + 1) (.int .i64 c.r) (.int .i64 c.g) (.int .i64 c.b) (.int .i64 c.a) ∧ C9 w' (w.heap.size + 1 + 1) (.int .i64 0) (.int .i64 0) (.nilIface) (.slice none 0 0) (.int .i64 0) (.int .i64 0) (.int .i64 0) (.int .i64 0) (.int .i64 0)) := fun w' b => ⟨(b3 (o1 := (.cells #[.int .i64 s, .int .i64 y, .int .i64 l, .slice (some ⟨q, o, none⟩) n cp] 43)) (o2 := (.cells #[.int .i64 c.r, .int .i64 c.g, .int .i64 c.b, .int .i64 c.a] 25)) (o3 := (.cells #[.int .i64 0, .int .i64 0, .nilIface, .slice none 0 0, .int .i64 0, .int .i64 0, .int .i64 0, .int .i64 0, .int .i64 0] 87))).trans (b.mono (b3 (o1 := (.cells #[.int .i64 s, .int .i64 y, .int .i64 l, .slice (some ⟨q, o, none⟩) n cp] 43)) (o2 := (.cells #[.int .i64 c.r, .int .i64 c.g, .int .i64 c.b, .int .i64 c.a] 25)) (o3 := (.cells #[.int .i64 0, .int .i64 0, .nilIface, .slice none 0 0, .int .i64 0, .int .i64 0, .int .i64 0, .int .i64 0, .int .i64 0] 87))).size), (((C4.new w 43 (.int .i64 s) (.int .i64 y) (.int .i64 l) (.slice (some ⟨q, o, none⟩) n cp)).next (alloc_b (o := (.cells #[.int .i64 c.r, .int .i64 c.g, .int .i64 c.b, .int .i64 c.a] 25)))).next (alloc_b (o := (.cells #[.int .i64 0, .int .i64 0, .nilIface, .slice none 0 0, .int .i64 0, .int .i64 0, .int .i64 0, .int .i64 0, .int .i64 0] 87)))).next b, by
    have h := ((C4.new (w.alloc (.cells #[.int .i64 s, .int .i64 y, .int .i64 l, .slice (some ⟨q, o, none⟩) n cp] 43)) 25 (.int .i64 c.r) (.int .i64 c.g) (.int .i64 c.b) (.int .i64 c.a)).next (alloc_b (o := (.cells #[.int .i64 0, .int .i64 0, .nilIface, .slice none 0 0, .int .i64 0, .int .i64 0, .int .i64 0, .int .i64 0, .int .i64 0] 87)))).next b
    rwa [World.size_alloc] at h, by
    have h := (C9.new ((w.alloc (.cells #[.int .i64 s, .int .i64 y, .int .i64 l, .slice (some ⟨q, o, none⟩) n cp] 43)).alloc (.cells #[.int .i64 c.r, .int .i64 c.g, .int .i64 c.b, .int .i64 c.a] 25)) 87 (.int .i64 0) (.int .i64 0) (.nilIface) (.slice none 0 0) (.int .i64 0) (.int .i64 0) (.int .i64 0) (.int .i64 0) (.int .i64 0)).next b
    rwa [World.size_alloc, World.size_alloc] at h⟩
  have HB3 : Hid (Below w.heap.size w (((w.alloc (.cells #[.int .i64 s, .int .i64 y, .int .i64 l, .slice (some ⟨q, o, none⟩) n cp] 43)).alloc (.cells #[.int .i64 c.r, .int .i64 c.g, .int .i64 c.b, .int .i64 c.a] 25)).alloc (.cells #[.int .i64 0, .int .i64 0, .nilIface, .slice none 0 0, .int .i64 0, .int .i64 0, .int .i64 0, .int .i64 0, .int .i64 0] 87))) := b3
  have i0 : ¬ (k : Int) < 0 := by omega
  have i1 : (k : Int) < (n : Int) := by omega
  have i2 : (0 : Int) ≤ (k : Int) := by omega
  generalize hlk : (F k).length = lk at HROW HCC
  clear hlk
  go_enter Try.func63, Try.ntmps63
  go_wp2_with (first | (go_at_call 26; refine (HM.out _ HB3.out).mono ?_; rintro e9 w2 ⟨rfl, B2⟩; (obtain ⟨BXX, T2, K2, DX⟩ := HALL.out w2 B2); (have t0 := T2.c0); (have t1 := T2.c1); (have t2 := T2.c2); (have t3 := T2.c3); (have tf := T2.f); (have k0 := K2.c0); (have k1 := K2.c1); (have k2 := K2.c2); (have k3 := K2.c3); (have kf := K2.f); (have x0 := DX.c0); (have x1 := DX.c1); (have x2 := DX.c2); (have x3 := DX.c3); (have x4 := DX.c4); (have x5 := DX.c5); (have x6 := DX.c6); (have x7 := DX.c7); (have x8 := DX.c8); (have xf := DX.f)) | (go_at_call 81; refine (HE.out _).mono ?_; rintro e9 w3 ⟨rfl, B3⟩; (have T2 := T2.next B3); (have K2 := K2.next B3); (have DX := DX.next B3); (have BXX := BXX.out.trans (B3.mono BXX.out.size)); (have t0 := T2.c0); (have t1 := T2.c1); (have t2 := T2.c2); (have t3 := T2.c3); (have tf := T2.f); (have k0 := K2.c0); (have k1 := K2.c1); (have k2 := K2.c2); (have k3 := K2.c3); (have kf := K2.f); (have x0 := DX.c0); (have x1 := DX.c1); (have x2 := DX.c2); (have x3 := DX.c3); (have x4 := DX.c4); (have x5 := DX.c5); (have x6 := DX.c6); (have x7 := DX.c7); (have x8 := DX.c8); (have xf := DX.f)) | (go_at_call 43; refine (HFO.out _).mono ?_; rintro e9 w9 ⟨rfl, hw9⟩; subst w9))
  generalize hWW : w3.drew = WX
  have T2 := T2.next (below_drew (Below.refl _ _))
  have K2 := K2.next (below_drew (Below.refl _ _))
  have DX := DX.next (below_drew (Below.refl _ _))
  have BXX := below_drew BXX
  have hcell := HCC.out _ BXX
  rw [hWW] at T2 K2 DX BXX hcell
  refine wp_region_held_drew (S := fun v => Below WX.heap.size WX v) (by kernel_rfl) (by rw [hWW]; exact Below.refl _ _) (fun hH => ?_)
  rw [hWW] at hH ⊢
  clear hWW
  clear t0 k0 t1 k1 t2 k2 t3 k3 tf kf x0 x1 x2 x3 x4 x5 x6 x7 x8 xf
  refine wpAnyH_take (i := 0) (oi := { dst := some 40, op := Op.fieldAddr 43 (Operand.tmp 4) 0, type := 0, pos := "l16_texture.go:336", after := #[], guard := none }) (v := .pointer (some ⟨w.heap.size, 0, none⟩)) rfl (by kernel_rfl) (by kernel_rfl) (by kernel_rfl) (fun _ _ _ h => h) (Or.inl ⟨by rfl, fun w0 hSw => by (go_simp)⟩) hH ?_
  simp only [Act.put, List.setIfInBounds_toArray, List.set_cons_zero, List.set_cons_succ]
  refine wpAnyH_take (i := 1) (oi := { dst := some 41, op := Op.load 3 (Operand.tmp 40), type := 3, pos := "l16_texture.go:336", after := #[{ on := 0, ground := Ground.data }], guard := none }) (v := .int .i64 s) rfl (by kernel_rfl) (by kernel_rfl) (by kernel_rfl) (fun _ _ _ h => h) (Or.inl ⟨by rfl, fun w0 hSw => by ((have e9 := cell_nx T2.c0 hSw); go_simp)⟩) hH ?_
  simp only [Act.put, List.setIfInBounds_toArray, List.set_cons_zero, List.set_cons_succ]
  refine wpAnyH_take (i := 2) (oi := { dst := some 42, op := Op.move (Operand.tmp 1), type := 3, pos := "l16_texture.go:336", after := #[], guard := none }) (v := .int .i64 (k : Int)) rfl (by kernel_rfl) (by kernel_rfl) (by kernel_rfl) (fun _ _ _ h => h) (Or.inl ⟨by rfl, fun w0 hSw => by (go_simp)⟩) hH ?_
  simp only [Act.put, List.setIfInBounds_toArray, List.set_cons_zero, List.set_cons_succ]
  refine wpAnyH_take (i := 4) (oi := { dst := some 44, op := Op.fieldAddr 43 (Operand.tmp 4) 1, type := 0, pos := "l16_texture.go:336", after := #[], guard := none }) (v := .pointer (some ⟨w.heap.size, 1, none⟩)) rfl (by kernel_rfl) (by kernel_rfl) (by kernel_rfl) (fun _ _ _ h => h) (Or.inl ⟨by rfl, fun w0 hSw => by (go_simp)⟩) hH ?_
  simp only [Act.put, List.setIfInBounds_toArray, List.set_cons_zero, List.set_cons_succ]
  refine wpAnyH_take (i := 5) (oi := { dst := some 45, op := Op.load 3 (Operand.tmp 44), type := 3, pos := "l16_texture.go:336", after := #[{ on := 4, ground := Ground.data }], guard := none }) (v := .int .i64 y) rfl (by kernel_rfl) (by kernel_rfl) (by kernel_rfl) (fun _ _ _ h => h) (Or.inl ⟨by rfl, fun w0 hSw => by ((have e9 := cell_nx T2.c1 hSw); go_simp)⟩) hH ?_
  simp only [Act.put, List.setIfInBounds_toArray, List.set_cons_zero, List.set_cons_succ]
  refine wpAnyH_take (i := 6) (oi := { dst := some 46, op := Op.move (Operand.tmp 1), type := 3, pos := "l16_texture.go:336", after := #[], guard := none }) (v := .int .i64 (k : Int)) rfl (by kernel_rfl) (by kernel_rfl) (by kernel_rfl) (fun _ _ _ h => h) (Or.inl ⟨by rfl, fun w0 hSw => by (go_simp)⟩) hH ?_
  simp only [Act.put, List.setIfInBounds_toArray, List.set_cons_zero, List.set_cons_succ]
  refine wpAnyH_take (i := 8) (oi := { dst := some 48, op := Op.move (Operand.tmp 10), type := 62, pos := "l16_texture.go:336", after := #[], guard := none }) (v := .iface ft (.agg #[])) rfl (by kernel_rfl) (by kernel_rfl) (by kernel_rfl) (fun _ _ _ h => h) (Or.inl ⟨by rfl, fun w0 hSw => by (go_simp)⟩) hH ?_
  simp only [Act.put, List.setIfInBounds_toArray, List.set_cons_zero, List.set_cons_succ]
  refine wpAnyH_take (i := 9) (oi := { dst := some 49, op := Op.fieldAddr 43 (Operand.tmp 4) 3, type := 0, pos := "l16_texture.go:336", after := #[], guard := none }) (v := .pointer (some ⟨w.heap.size, 3, none⟩)) rfl (by kernel_rfl) (by kernel_rfl) (by kernel_rfl) (fun _ _ _ h => h) (Or.inl ⟨by rfl, fun w0 hSw => by (go_simp)⟩) hH ?_
  simp only [Act.put, List.setIfInBounds_toArray, List.set_cons_zero, List.set_cons_succ]
  refine wpAnyH_take (i := 10) (oi := { dst := some 50, op := Op.load 38 (Operand.tmp 49), type := 38, pos := "l16_texture.go:336", after := #[{ on := 9, ground := Ground.data }], guard := none }) (v := .slice (some ⟨q, o, none⟩) n cp) rfl (by kernel_rfl) (by kernel_rfl) (by kernel_rfl) (fun _ _ _ h => h) (Or.inl ⟨by rfl, fun w0 hSw => by ((have e9 := cell_nx T2.c3 hSw); go_simp)⟩) hH ?_
  simp only [Act.put, List.setIfInBounds_toArray, List.set_cons_zero, List.set_cons_succ]
  refine wpAnyH_take (i := 11) (oi := { dst := some 51, op := Op.move (Operand.tmp 1), type := 3, pos := "l16_texture.go:336", after := #[], guard := none }) (v := .int .i64 (k : Int)) rfl (by kernel_rfl) (by kernel_rfl) (by kernel_rfl) (fun _ _ _ h => h) (Or.inl ⟨by rfl, fun w0 hSw => by (go_simp)⟩) hH ?_
  simp only [Act.put, List.setIfInBounds_toArray, List.set_cons_zero, List.set_cons_succ]
  refine wpAnyH_take (i := 12) (oi := { dst := some 52, op := Op.indexAddr 38 (Operand.tmp 50) (Operand.tmp 51), type := 0, pos := "l16_texture.go:336", after := #[{ on := 10, ground := Ground.data }, { on := 11, ground := Ground.data }], guard := none }) (v := .pointer (some ⟨q, o + k, none⟩)) rfl (by kernel_rfl) (by kernel_rfl) (by kernel_rfl) (fun _ _ _ h => h) (Or.inl ⟨by rfl, fun w0 hSw => by (go_simp <;> first | (intro h; exfalso; omega) | exact (IntKind.wrap_i64 _).trans (by omega) | omega)⟩) hH ?_
  simp only [Act.put, List.setIfInBounds_toArray, List.set_cons_zero, List.set_cons_succ]
  refine wpAnyH_take (i := 13) (oi := { dst := some 53, op := Op.load 28 (Operand.tmp 52), type := 28, pos := "l16_texture.go:336", after := #[{ on := 12, ground := Ground.data }], guard := none }) (v := .slice ra lk rc) rfl (by kernel_rfl) (by kernel_rfl) (by kernel_rfl) (fun _ _ _ h => h) (Or.inl ⟨by rfl, fun w0 hSw => by ((have e9 := cell_nx hcell hSw); go_simp)⟩) hH ?_
  simp only [Act.put, List.setIfInBounds_toArray, List.set_cons_zero, List.set_cons_succ]
  refine wpAnyH_ready (rs := [3, 15]) (by kernel_rfl) (by simp) ?_
  refine (AllReadyH.cons (o := { dst := some 43, op := Op.call { callee := Callee.value (Operand.func 53), args := #[Operand.tmp 41, Operand.tmp 42], argTypes := #[3, 3] }, type := 3, pos := "l16_texture.go:336", after := #[{ on := 1, ground := Ground.data }, { on := 2, ground := Ground.data }], guard := none }) rfl (fun K hK => ?_) (AllReadyH.cons (o := { dst := some 12, op := Op.alloc 81, type := 0, pos := "l16_texture.go:336", after := #[], guard := none }) rfl (fun K hK => ?_) AllReadyH.nil))
  · refine step_callC 53 #[.int .i64 s, .int .i64 (k : Int)] (fun z v w' => z = .int .i64 A ∧ w' = v) (by rfl) (by go_simp) ((HA.out _).mono fun e w' ⟨h1, h2⟩ => ⟨_, h1, rfl, h2⟩) ?_
    rintro z3 w3 ⟨rfl, hw3⟩
    subst w3
    simp only [Act.put, List.setIfInBounds_toArray, List.set_cons_zero, List.set_cons_succ]
    refine hK.out _ _ hH (fun hH' => ?_)
    clear hK K
    replace hH := hH'
    clear hH' 
    refine wpAnyH_ready (rs := [7, 15]) (by kernel_rfl) (by simp) ?_
    refine (AllReadyH.cons (o := { dst := some 47, op := Op.call { callee := Callee.value (Operand.func 53), args := #[Operand.tmp 45, Operand.tmp 46], argTypes := #[3, 3] }, type := 3, pos := "l16_texture.go:336", after := #[{ on := 5, ground := Ground.data }, { on := 6, ground := Ground.data }, { on := 3, ground := Ground.chain }], guard := none }) rfl (fun K hK => ?_) (AllReadyH.cons (o := { dst := some 12, op := Op.alloc 81, type := 0, pos := "l16_texture.go:336", after := #[], guard := none }) rfl (fun K hK => ?_) AllReadyH.nil))
    · refine step_callC 53 #[.int .i64 y, .int .i64 (k : Int)] (fun z v w' => z = .int .i64 B ∧ w' = v) (by rfl) (by go_simp) ((HB.out _).mono fun e w' ⟨h1, h2⟩ => ⟨_, h1, rfl, h2⟩) ?_
      rintro z4 w4 ⟨rfl, hw4⟩
      subst w4
      simp only [Act.put, List.setIfInBounds_toArray, List.set_cons_zero, List.set_cons_succ]
      refine hK.out _ _ hH (fun hH' => ?_)
      clear hK K
      replace hH := hH'
      clear hH' 
      refine wpAnyH_take (i := 14) (oi := { dst := some 54, op := Op.build 81 #[(0, Operand.tmp 43), (1, Operand.tmp 47), (2, Operand.tmp 48), (3, Operand.tmp 53)], type := 81, pos := "l16_texture.go:336", after := #[{ on := 3, ground := Ground.data }, { on := 7, ground := Ground.data }, { on := 8, ground := Ground.data }, { on := 13, ground := Ground.data }], guard := none }) (v := .agg #[.int .i64 A, .int .i64 B, .iface ft (.agg #[]), .slice ra lk rc]) rfl (by kernel_rfl) (by kernel_rfl) (by kernel_rfl) (fun _ _ _ h => h) (Or.inl ⟨by rfl, fun w0 hSw => by (go_simp)⟩) hH ?_
      simp only [Act.put, List.setIfInBounds_toArray, List.set_cons_zero, List.set_cons_succ]
      refine wpAnyH_ready (rs := [15]) (by kernel_rfl) (by simp) ?_
      refine (AllReadyH.cons (o := { dst := some 12, op := Op.alloc 81, type := 0, pos := "l16_texture.go:336", after := #[], guard := none }) rfl (fun K hK => ?_) AllReadyH.nil)
      refine step_val (.pointer (some ⟨WX.heap.size, 0, none⟩)) (WX.alloc (.cells #[.int .i64 0, .int .i64 0, .nilIface, .slice none 0 0] 81)) (by rfl) (by go_simp) ?_
      simp only [Act.put, List.setIfInBounds_toArray, List.set_cons_zero, List.set_cons_succ]
      refine hK.out _ _ (hH.trans (alloc_b.mono hH.size)) (fun hH' => ?_)
      clear hK K
      replace hH := hH'
      clear hH' 
      refine wpAnyH_ready (rs := [16]) (by kernel_rfl) (by simp) ?_
      refine (AllReadyH.cons (o := { dst := none, op := Op.store 81 (Operand.tmp 12) (Operand.tmp 54), type := 0, pos := "l16_texture.go:336", after := #[{ on := 15, ground := Ground.data }, { on := 14, ground := Ground.data }, { on := 7, ground := Ground.chain }, { on := 0, ground := Ground.phase }, { on := 1, ground := Ground.phase }, { on := 2, ground := Ground.phase }, { on := 3, ground := Ground.phase }, { on := 4, ground := Ground.phase }, { on := 5, ground := Ground.phase }, { on := 6, ground := Ground.phase }, { on := 7, ground := Ground.phase }, { on := 8, ground := Ground.phase }, { on := 9, ground := Ground.phase }, { on := 10, ground := Ground.phase }, { on := 11, ground := Ground.phase }, { on := 12, ground := Ground.phase }, { on := 13, ground := Ground.phase }, { on := 14, ground := Ground.phase }, { on := 15, ground := Ground.phase }], guard := none }) rfl (fun K hK => ?_) AllReadyH.nil)
      refine step_skip (set4 (WX.alloc (.cells #[.int .i64 0, .int .i64 0, .nilIface, .slice none 0 0] 81)) WX.heap.size (.int .i64 A) (.int .i64 B) (.iface ft (.agg #[])) (.slice ra lk rc)) (by rfl) (by unfold set4; go_simp) ?_
      have O6 := only_set4 (WX.alloc (.cells #[.int .i64 0, .int .i64 0, .nilIface, .slice none 0 0] 81)) WX.heap.size (.int .i64 A) (.int .i64 B) (.iface ft (.agg #[])) (.slice ra lk rc)
      have D6 := (C4.new WX 81 (.int .i64 0) (.int .i64 0) (.nilIface) (.slice none 0 0)).put (.int .i64 A) (.int .i64 B) (.iface ft (.agg #[])) (.slice ra lk rc)
      have B6 : Below WX.heap.size WX (set4 (WX.alloc (.cells #[.int .i64 0, .int .i64 0, .nilIface, .slice none 0 0] 81)) WX.heap.size (.int .i64 A) (.int .i64 B) (.iface ft (.agg #[])) (.slice ra lk rc)) := (alloc_b).trans (O6.below (Nat.le_refl _) (by simp))
      refine hK.out _ _ B6 (fun hH' => ?_)
      clear hK K hH hH' O6
      refine wpAnyH_done (by kernel_rfl) ?_ _
      have T6 := T2.next B6
      have K6 := K2.next B6
      have X6 := DX.next B6
      have BN := BXX.trans (B6.mono BXX.size)
      have H6 := HROW.out _ BN
      generalize (set4 (WX.alloc (.cells #[.int .i64 0, .int .i64 0, .nilIface, .slice none 0 0] 81)) WX.heap.size (.int .i64 A) (.int .i64 B) (.iface ft (.agg #[])) (.slice ra lk rc)) = w6 at D6 T6 K6 X6 BN H6 ⊢
      clear B6 T2 K2 DX
      have d0 := D6.c0
      have d1 := D6.c1
      have d2 := D6.c2
      have d3 := D6.c3
      have k0 := K6.c0
      have k1 := K6.c1
      have k2 := K6.c2
      have k3 := K6.c3
      have x0 := X6.c0
      have x1 := X6.c1
      have x2 := X6.c2
      have x3 := X6.c3
      have x4 := X6.c4
      have x5 := X6.c5
      have x6 := X6.c6
      have x7 := X6.c7
      have x8 := X6.c8
      have xf := X6.f
      go_wp2
      clear x0 x1 x2 x3 x4 x5 x6 x7 x8 xf
      have E6 := X6.put (.int .i64 A) (.int .i64 B) (.iface ft (.agg #[])) (.slice ra lk rc) (.int .i64 e) (.int .i64 c.r) (.int .i64 c.g) (.int .i64 c.b) (.int .i64 c.a)
      have O7 := only_set9 w6 (w.heap.size + 1 + 1) (.int .i64 A) (.int .i64 B) (.iface ft (.agg #[])) (.slice ra lk rc) (.int .i64 e) (.int .i64 c.r) (.int .i64 c.g) (.int .i64 c.b) (.int .i64 c.a)
      have B06 : Below w.heap.size w (set9 w6 (w.heap.size + 1 + 1) (.int .i64 A) (.int .i64 B) (.iface ft (.agg #[])) (.slice ra lk rc) (.int .i64 e) (.int .i64 c.r) (.int .i64 c.g) (.int .i64 c.b) (.int .i64 c.a)) := BN.trans (O7.below (by omega) BN.size)
      have H7 : BRow (set9 w6 (w.heap.size + 1 + 1) (.int .i64 A) (.int .i64 B) (.iface ft (.agg #[])) (.slice ra lk rc) (.int .i64 e) (.int .i64 c.r) (.int .i64 c.g) (.int .i64 c.b) (.int .i64 c.a)) (.slice ra lk rc) (F k) := HROW.out _ B06
      unfold set9 at E6 B06 H7
      have r0 := E6.c0
      have r1 := E6.c1
      have r2 := E6.c2
      have r3 := E6.c3
      have r4 := E6.c4
      have r5 := E6.c5
      have r6 := E6.c6
      have r7 := E6.c7
      have r8 := E6.c8
      exact bodyPost_ret (v := .tuple #[.agg #[.int .i64 A, .int .i64 B, .iface ft (.agg #[]), .slice ra lk rc, .int .i64 e, .int .i64 c.r, .int .i64 c.g, .int .i64 c.b, .int .i64 c.a], .bool true]) (by simp [results, Try.results63, go_sem, r0, r1, r2, r3, r4, r5, r6, r7, r8]) rfl ⟨_, rfl, H7, B06⟩
    · refine step_val (.pointer (some ⟨WX.heap.size, 0, none⟩)) (WX.alloc (.cells #[.int .i64 0, .int .i64 0, .nilIface, .slice none 0 0] 81)) (by rfl) (by go_simp) ?_
      simp only [Act.put, List.setIfInBounds_toArray, List.set_cons_zero, List.set_cons_succ]
      refine hK.out _ _ (hH.trans (alloc_b.mono hH.size)) (fun hH' => ?_)
      clear hK K
      replace hH := hH'
      clear hH' 
      refine wpAnyH_ready (rs := [7]) (by kernel_rfl) (by simp) ?_
      refine (AllReadyH.cons (o := { dst := some 47, op := Op.call { callee := Callee.value (Operand.func 53), args := #[Operand.tmp 45, Operand.tmp 46], argTypes := #[3, 3] }, type := 3, pos := "l16_texture.go:336", after := #[{ on := 5, ground := Ground.data }, { on := 6, ground := Ground.data }, { on := 3, ground := Ground.chain }], guard := none }) rfl (fun K hK => ?_) AllReadyH.nil)
      refine step_callC 53 #[.int .i64 y, .int .i64 (k : Int)] (fun z v w' => z = .int .i64 B ∧ w' = v) (by rfl) (by go_simp) ((HB.out _).mono fun e w' ⟨h1, h2⟩ => ⟨_, h1, rfl, h2⟩) ?_
      rintro z4 w4 ⟨rfl, hw4⟩
      subst w4
      simp only [Act.put, List.setIfInBounds_toArray, List.set_cons_zero, List.set_cons_succ]
      refine hK.out _ _ hH (fun hH' => ?_)
      clear hK K
      replace hH := hH'
      clear hH' 
      refine wpAnyH_take (i := 14) (oi := { dst := some 54, op := Op.build 81 #[(0, Operand.tmp 43), (1, Operand.tmp 47), (2, Operand.tmp 48), (3, Operand.tmp 53)], type := 81, pos := "l16_texture.go:336", after := #[{ on := 3, ground := Ground.data }, { on := 7, ground := Ground.data }, { on := 8, ground := Ground.data }, { on := 13, ground := Ground.data }], guard := none }) (v := .agg #[.int .i64 A, .int .i64 B, .iface ft (.agg #[]), .slice ra lk rc]) rfl (by kernel_rfl) (by kernel_rfl) (by kernel_rfl) (fun _ _ _ h => h) (Or.inl ⟨by rfl, fun w0 hSw => by (go_simp)⟩) hH ?_
      simp only [Act.put, List.setIfInBounds_toArray, List.set_cons_zero, List.set_cons_succ]
      refine wpAnyH_ready (rs := [16]) (by kernel_rfl) (by simp) ?_
      refine (AllReadyH.cons (o := { dst := none, op := Op.store 81 (Operand.tmp 12) (Operand.tmp 54), type := 0, pos := "l16_texture.go:336", after := #[{ on := 15, ground := Ground.data }, { on := 14, ground := Ground.data }, { on := 7, ground := Ground.chain }, { on := 0, ground := Ground.phase }, { on := 1, ground := Ground.phase }, { on := 2, ground := Ground.phase }, { on := 3, ground := Ground.phase }, { on := 4, ground := Ground.phase }, { on := 5, ground := Ground.phase }, { on := 6, ground := Ground.phase }, { on := 7, ground := Ground.phase }, { on := 8, ground := Ground.phase }, { on := 9, ground := Ground.phase }, { on := 10, ground := Ground.phase }, { on := 11, ground := Ground.phase }, { on := 12, ground := Ground.phase }, { on := 13, ground := Ground.phase }, { on := 14, ground := Ground.phase }, { on := 15, ground := Ground.phase }], guard := none }) rfl (fun K hK => ?_) AllReadyH.nil)
      refine step_skip (set4 (WX.alloc (.cells #[.int .i64 0, .int .i64 0, .nilIface, .slice none 0 0] 81)) WX.heap.size (.int .i64 A) (.int .i64 B) (.iface ft (.agg #[])) (.slice ra lk rc)) (by rfl) (by unfold set4; go_simp) ?_
      have O6 := only_set4 (WX.alloc (.cells #[.int .i64 0, .int .i64 0, .nilIface, .slice none 0 0] 81)) WX.heap.size (.int .i64 A) (.int .i64 B) (.iface ft (.agg #[])) (.slice ra lk rc)
      have D6 := (C4.new WX 81 (.int .i64 0) (.int .i64 0) (.nilIface) (.slice none 0 0)).put (.int .i64 A) (.int .i64 B) (.iface ft (.agg #[])) (.slice ra lk rc)
      have B6 : Below WX.heap.size WX (set4 (WX.alloc (.cells #[.int .i64 0, .int .i64 0, .nilIface, .slice none 0 0] 81)) WX.heap.size (.int .i64 A) (.int .i64 B) (.iface ft (.agg #[])) (.slice ra lk rc)) := (alloc_b).trans (O6.below (Nat.le_refl _) (by simp))
      refine hK.out _ _ B6 (fun hH' => ?_)
      clear hK K hH hH' O6
      refine wpAnyH_done (by kernel_rfl) ?_ _
      have T6 := T2.next B6
      have K6 := K2.next B6
      have X6 := DX.next B6
      have BN := BXX.trans (B6.mono BXX.size)
      have H6 := HROW.out _ BN
      generalize (set4 (WX.alloc (.cells #[.int .i64 0, .int .i64 0, .nilIface, .slice none 0 0] 81)) WX.heap.size (.int .i64 A) (.int .i64 B) (.iface ft (.agg #[])) (.slice ra lk rc)) = w6 at D6 T6 K6 X6 BN H6 ⊢
      clear B6 T2 K2 DX
      have d0 := D6.c0
      have d1 := D6.c1
      have d2 := D6.c2
      have d3 := D6.c3
      have k0 := K6.c0
      have k1 := K6.c1
      have k2 := K6.c2
      have k3 := K6.c3
      have x0 := X6.c0
      have x1 := X6.c1
      have x2 := X6.c2
      have x3 := X6.c3
      have x4 := X6.c4
      have x5 := X6.c5
      have x6 := X6.c6
      have x7 := X6.c7
      have x8 := X6.c8
      have xf := X6.f
      go_wp2
      clear x0 x1 x2 x3 x4 x5 x6 x7 x8 xf
      have E6 := X6.put (.int .i64 A) (.int .i64 B) (.iface ft (.agg #[])) (.slice ra lk rc) (.int .i64 e) (.int .i64 c.r) (.int .i64 c.g) (.int .i64 c.b) (.int .i64 c.a)
      have O7 := only_set9 w6 (w.heap.size + 1 + 1) (.int .i64 A) (.int .i64 B) (.iface ft (.agg #[])) (.slice ra lk rc) (.int .i64 e) (.int .i64 c.r) (.int .i64 c.g) (.int .i64 c.b) (.int .i64 c.a)
      have B06 : Below w.heap.size w (set9 w6 (w.heap.size + 1 + 1) (.int .i64 A) (.int .i64 B) (.iface ft (.agg #[])) (.slice ra lk rc) (.int .i64 e) (.int .i64 c.r) (.int .i64 c.g) (.int .i64 c.b) (.int .i64 c.a)) := BN.trans (O7.below (by omega) BN.size)
      have H7 : BRow (set9 w6 (w.heap.size + 1 + 1) (.int .i64 A) (.int .i64 B) (.iface ft (.agg #[])) (.slice ra lk rc) (.int .i64 e) (.int .i64 c.r) (.int .i64 c.g) (.int .i64 c.b) (.int .i64 c.a)) (.slice ra lk rc) (F k) := HROW.out _ B06
      unfold set9 at E6 B06 H7
      have r0 := E6.c0
      have r1 := E6.c1
      have r2 := E6.c2
      have r3 := E6.c3
      have r4 := E6.c4
      have r5 := E6.c5
      have r6 := E6.c6
      have r7 := E6.c7
      have r8 := E6.c8
      exact bodyPost_ret (v := .tuple #[.agg #[.int .i64 A, .int .i64 B, .iface ft (.agg #[]), .slice ra lk rc, .int .i64 e, .int .i64 c.r, .int .i64 c.g, .int .i64 c.b, .int .i64 c.a], .bool true]) (by simp [results, Try.results63, go_sem, r0, r1, r2, r3, r4, r5, r6, r7, r8]) rfl ⟨_, rfl, H7, B06⟩
  · refine step_val (.pointer (some ⟨WX.heap.size, 0, none⟩)) (WX.alloc (.cells #[.int .i64 0, .int .i64 0, .nilIface, .slice none 0 0] 81)) (by rfl) (by go_simp) ?_
    simp only [Act.put, List.setIfInBounds_toArray, List.set_cons_zero, List.set_cons_succ]
    refine hK.out _ _ (hH.trans (alloc_b.mono hH.size)) (fun hH' => ?_)
    clear hK K
    replace hH := hH'
    clear hH' 
    refine wpAnyH_ready (rs := [3]) (by kernel_rfl) (by simp) ?_
    refine (AllReadyH.cons (o := { dst := some 43, op := Op.call { callee := Callee.value (Operand.func 53), args := #[Operand.tmp 41, Operand.tmp 42], argTypes := #[3, 3] }, type := 3, pos := "l16_texture.go:336", after := #[{ on := 1, ground := Ground.data }, { on := 2, ground := Ground.data }], guard := none }) rfl (fun K hK => ?_) AllReadyH.nil)
    refine step_callC 53 #[.int .i64 s, .int .i64 (k : Int)] (fun z v w' => z = .int .i64 A ∧ w' = v) (by rfl) (by go_simp) ((HA.out _).mono fun e w' ⟨h1, h2⟩ => ⟨_, h1, rfl, h2⟩) ?_
    rintro z3 w3 ⟨rfl, hw3⟩
    subst w3
    simp only [Act.put, List.setIfInBounds_toArray, List.set_cons_zero, List.set_cons_succ]
    refine hK.out _ _ hH (fun hH' => ?_)
    clear hK K
    replace hH := hH'
    clear hH' 
    refine wpAnyH_ready (rs := [7]) (by kernel_rfl) (by simp) ?_
    refine (AllReadyH.cons (o := { dst := some 47, op := Op.call { callee := Callee.value (Operand.func 53), args := #[Operand.tmp 45, Operand.tmp 46], argTypes := #[3, 3] }, type := 3, pos := "l16_texture.go:336", after := #[{ on := 5, ground := Ground.data }, { on := 6, ground := Ground.data }, { on := 3, ground := Ground.chain }], guard := none }) rfl (fun K hK => ?_) AllReadyH.nil)
    refine step_callC 53 #[.int .i64 y, .int .i64 (k : Int)] (fun z v w' => z = .int .i64 B ∧ w' = v) (by rfl) (by go_simp) ((HB.out _).mono fun e w' ⟨h1, h2⟩ => ⟨_, h1, rfl, h2⟩) ?_
    rintro z4 w4 ⟨rfl, hw4⟩
    subst w4
    simp only [Act.put, List.setIfInBounds_toArray, List.set_cons_zero, List.set_cons_succ]
    refine hK.out _ _ hH (fun hH' => ?_)
    clear hK K
    replace hH := hH'
    clear hH' 
    refine wpAnyH_take (i := 14) (oi := { dst := some 54, op := Op.build 81 #[(0, Operand.tmp 43), (1, Operand.tmp 47), (2, Operand.tmp 48), (3, Operand.tmp 53)], type := 81, pos := "l16_texture.go:336", after := #[{ on := 3, ground := Ground.data }, { on := 7, ground := Ground.data }, { on := 8, ground := Ground.data }, { on := 13, ground := Ground.data }], guard := none }) (v := .agg #[.int .i64 A, .int .i64 B, .iface ft (.agg #[]), .slice ra lk rc]) rfl (by kernel_rfl) (by kernel_rfl) (by kernel_rfl) (fun _ _ _ h => h) (Or.inl ⟨by rfl, fun w0 hSw => by (go_simp)⟩) hH ?_
    simp only [Act.put, List.setIfInBounds_toArray, List.set_cons_zero, List.set_cons_succ]
    refine wpAnyH_ready (rs := [16]) (by kernel_rfl) (by simp) ?_
    refine (AllReadyH.cons (o := { dst := none, op := Op.store 81 (Operand.tmp 12) (Operand.tmp 54), type := 0, pos := "l16_texture.go:336", after := #[{ on := 15, ground := Ground.data }, { on := 14, ground := Ground.data }, { on := 7, ground := Ground.chain }, { on := 0, ground := Ground.phase }, { on := 1, ground := Ground.phase }, { on := 2, ground := Ground.phase }, { on := 3, ground := Ground.phase }, { on := 4, ground := Ground.phase }, { on := 5, ground := Ground.phase }, { on := 6, ground := Ground.phase }, { on := 7, ground := Ground.phase }, { on := 8, ground := Ground.phase }, { on := 9, ground := Ground.phase }, { on := 10, ground := Ground.phase }, { on := 11, ground := Ground.phase }, { on := 12, ground := Ground.phase }, { on := 13, ground := Ground.phase }, { on := 14, ground := Ground.phase }, { on := 15, ground := Ground.phase }], guard := none }) rfl (fun K hK => ?_) AllReadyH.nil)
    refine step_skip (set4 (WX.alloc (.cells #[.int .i64 0, .int .i64 0, .nilIface, .slice none 0 0] 81)) WX.heap.size (.int .i64 A) (.int .i64 B) (.iface ft (.agg #[])) (.slice ra lk rc)) (by rfl) (by unfold set4; go_simp) ?_
    have O6 := only_set4 (WX.alloc (.cells #[.int .i64 0, .int .i64 0, .nilIface, .slice none 0 0] 81)) WX.heap.size (.int .i64 A) (.int .i64 B) (.iface ft (.agg #[])) (.slice ra lk rc)
    have D6 := (C4.new WX 81 (.int .i64 0) (.int .i64 0) (.nilIface) (.slice none 0 0)).put (.int .i64 A) (.int .i64 B) (.iface ft (.agg #[])) (.slice ra lk rc)
    have B6 : Below WX.heap.size WX (set4 (WX.alloc (.cells #[.int .i64 0, .int .i64 0, .nilIface, .slice none 0 0] 81)) WX.heap.size (.int .i64 A) (.int .i64 B) (.iface ft (.agg #[])) (.slice ra lk rc)) := (alloc_b).trans (O6.below (Nat.le_refl _) (by simp))
    refine hK.out _ _ B6 (fun hH' => ?_)
    clear hK K hH hH' O6
    refine wpAnyH_done (by kernel_rfl) ?_ _
    have T6 := T2.next B6
    have K6 := K2.next B6
    have X6 := DX.next B6
    have BN := BXX.trans (B6.mono BXX.size)
    have H6 := HROW.out _ BN
    generalize (set4 (WX.alloc (.cells #[.int .i64 0, .int .i64 0, .nilIface, .slice none 0 0] 81)) WX.heap.size (.int .i64 A) (.int .i64 B) (.iface ft (.agg #[])) (.slice ra lk rc)) = w6 at D6 T6 K6 X6 BN H6 ⊢
    clear B6 T2 K2 DX
    have d0 := D6.c0
    have d1 := D6.c1
    have d2 := D6.c2
    have d3 := D6.c3
    have k0 := K6.c0
    have k1 := K6.c1
    have k2 := K6.c2
    have k3 := K6.c3
    have x0 := X6.c0
    have x1 := X6.c1
    have x2 := X6.c2
    have x3 := X6.c3
    have x4 := X6.c4
    have x5 := X6.c5
    have x6 := X6.c6
    have x7 := X6.c7
    have x8 := X6.c8
    have xf := X6.f
    go_wp2
    clear x0 x1 x2 x3 x4 x5 x6 x7 x8 xf
    have E6 := X6.put (.int .i64 A) (.int .i64 B) (.iface ft (.agg #[])) (.slice ra lk rc) (.int .i64 e) (.int .i64 c.r) (.int .i64 c.g) (.int .i64 c.b) (.int .i64 c.a)
    have O7 := only_set9 w6 (w.heap.size + 1 + 1) (.int .i64 A) (.int .i64 B) (.iface ft (.agg #[])) (.slice ra lk rc) (.int .i64 e) (.int .i64 c.r) (.int .i64 c.g) (.int .i64 c.b) (.int .i64 c.a)
    have B06 : Below w.heap.size w (set9 w6 (w.heap.size + 1 + 1) (.int .i64 A) (.int .i64 B) (.iface ft (.agg #[])) (.slice ra lk rc) (.int .i64 e) (.int .i64 c.r) (.int .i64 c.g) (.int .i64 c.b) (.int .i64 c.a)) := BN.trans (O7.below (by omega) BN.size)
    have H7 : BRow (set9 w6 (w.heap.size + 1 + 1) (.int .i64 A) (.int .i64 B) (.iface ft (.agg #[])) (.slice ra lk rc) (.int .i64 e) (.int .i64 c.r) (.int .i64 c.g) (.int .i64 c.b) (.int .i64 c.a)) (.slice ra lk rc) (F k) := HROW.out _ B06
    unfold set9 at E6 B06 H7
    have r0 := E6.c0
    have r1 := E6.c1
    have r2 := E6.c2
    have r3 := E6.c3
    have r4 := E6.c4
    have r5 := E6.c5
    have r6 := E6.c6
    have r7 := E6.c7
    have r8 := E6.c8
    exact bodyPost_ret (v := .tuple #[.agg #[.int .i64 A, .int .i64 B, .iface ft (.agg #[]), .slice ra lk rc, .int .i64 e, .int .i64 c.r, .int .i64 c.g, .int .i64 c.b, .int .i64 c.a], .bool true]) (by simp [results, Try.results63, go_sem, r0, r1, r2, r3, r4, r5, r6, r7, r8]) rfl ⟨_, rfl, H7, B06⟩
set_option maxRecDepth 100000 in
set_option maxHeartbeats 4000000 in
theorem pfet (s y l : Int) (v : Value) (n : Nat) (F : Nat → List Int) (k x z e : Int) (c : Col) (w : World) (R : BRows w v n F) (bf : ByF n F) (hx : I64 x) (hz : I64 z) (hn : n ≤ 1048576) (hfl : ∀ x, x < n → (F x).length ≤ 1048576) : Calls Try.prog 37 #[.agg #[.int .i64 s, .int .i64 y, .int .i64 l, v], .int .i64 k, .int .i64 x, .int .i64 z, .int .i64 e, colV c] w fun e' w' => e' = .returned (.tuple #[colV (fcC s y l n F k x z e c), .bool (fcB s y l n F k e c)]) ∧ Below w.heap.size w w' := by
  have HRR : Hid (∀ w', Below w.heap.size w w' → BRows w' v n F) := fun w' b => R.next b
  obtain ⟨ad, cp, rfl, _⟩ := R
  have HALL : Hid (∀ w', Below (((w.alloc (.cells #[.int .i64 s, .int .i64 y, .int .i64 l, .slice ad n cp] 43)).alloc (.cells #[.int .i64 c.r, .int .i64 c.g, .int .i64 c.b, .int .i64 c.a] 25)).alloc (.cells #[.int .i64 0, .int .i64 0, .int .i64 0, .int .i64 0] 25)).heap.size (((w.alloc (.cells #[.int .i64 s, .int .i64 y, .int .i64 l, .slice ad n cp] 43)).alloc (.cells #[.int .i64 c.r, .int .i64 c.g, .int .i64 c.b, .int .i64 c.a] 25)).alloc (.cells #[.int .i64 0, .int .i64 0, .int .i64 0, .int .i64 0] 25)) w' → Hid (Below w.heap.size w w') ∧ C4 w' w.heap.size (.int .i64 s) (.int .i64 y) (.int .i64 l) (.slice ad n cp) ∧ C4 w' (w.heap.size + 1) (.int .i64 c.r) (.int .i64 c.g) (.int .i64 c.b) (.int .i64 c.a) ∧ C4 w' (w.heap.size + 1 + 1) (.int .i64 0) (.int .i64 0) (.int .i64 0) (.int .i64 0)) := fun w' b => ⟨(b3 (o1 := (.cells #[.int .i64 s, .int .i64 y, .int .i64 l, .slice ad n cp] 43)) (o2 := (.cells #[.int .i64 c.r, .int .i64 c.g, .int .i64 c.b, .int .i64 c.a] 25)) (o3 := (.cells #[.int .i64 0, .int .i64 0, .int .i64 0, .int .i64 0] 25))).trans (b.mono (b3 (o1 := (.cells #[.int .i64 s, .int .i64 y, .int .i64 l, .slice ad n cp] 43)) (o2 := (.cells #[.int .i64 c.r, .int .i64 c.g, .int .i64 c.b, .int .i64 c.a] 25)) (o3 := (.cells #[.int .i64 0, .int .i64 0, .int .i64 0, .int .i64 0] 25))).size), (((C4.new w 43 (.int .i64 s) (.int .i64 y) (.int .i64 l) (.slice ad n cp)).next (alloc_b (o := (.cells #[.int .i64 c.r, .int .i64 c.g, .int .i64 c.b, .int .i64 c.a] 25)))).next (alloc_b (o := (.cells #[.int .i64 0, .int .i64 0, .int .i64 0, .int .i64 0] 25)))).next b, by
    have h := ((C4.new (w.alloc (.cells #[.int .i64 s, .int .i64 y, .int .i64 l, .slice ad n cp] 43)) 25 (.int .i64 c.r) (.int .i64 c.g) (.int .i64 c.b) (.int .i64 c.a)).next (alloc_b (o := (.cells #[.int .i64 0, .int .i64 0, .int .i64 0, .int .i64 0] 25)))).next b
    rwa [World.size_alloc] at h, by
    have h := (C4.new ((w.alloc (.cells #[.int .i64 s, .int .i64 y, .int .i64 l, .slice ad n cp] 43)).alloc (.cells #[.int .i64 c.r, .int .i64 c.g, .int .i64 c.b, .int .i64 c.a] 25)) 25 (.int .i64 0) (.int .i64 0) (.int .i64 0) (.int .i64 0)).next b
    rwa [World.size_alloc, World.size_alloc] at h⟩
  have HB3 : Hid (Below w.heap.size w (((w.alloc (.cells #[.int .i64 s, .int .i64 y, .int .i64 l, .slice ad n cp] 43)).alloc (.cells #[.int .i64 c.r, .int .i64 c.g, .int .i64 c.b, .int .i64 c.a] 25)).alloc (.cells #[.int .i64 0, .int .i64 0, .int .i64 0, .int .i64 0] 25))) := b3
  unfold fcC
  cases hb : fcB s y l n F k e c
  · rw [if_neg (by decide)]
    unfold colV zC
    have HN : Hid (∀ w', Below w.heap.size w w' → Calls Try.prog 63 #[.agg #[.int .i64 s, .int .i64 y, .int .i64 l, .slice ad n cp], .int .i64 k, .int .i64 e, .agg #[.int .i64 c.r, .int .i64 c.g, .int .i64 c.b, .int .i64 c.a]] w' fun e' w'' => e' = .returned (.tuple #[.agg #[.int .i64 0, .int .i64 0, .nilIface, .slice none 0 0, .int .i64 0, .int .i64 0, .int .i64 0, .int .i64 0, .int .i64 0], .bool false]) ∧ Below w'.heap.size w' w'') := fun w' b => pedged_no s y l _ n F k e c w' (HRR.out w' b) hn hfl hb
    clear hb HRR
    go_enter Try.func37, Try.ntmps37
    go_wp2_with (go_at_call 63; refine (HN.out _ HB3.out).mono ?_; rintro e9 w2 ⟨rfl, B2⟩; (obtain ⟨BXX, T2, K2, DX⟩ := HALL.out w2 B2); (have DY := DX.next (alloc_b (o := .cells #[.int .i64 0, .int .i64 0, .nilIface, .slice none 0 0, .int .i64 0, .int .i64 0, .int .i64 0, .int .i64 0, .int .i64 0] 87))); (have BY := BXX.out.alloc BXX.out.size (.cells #[.int .i64 0, .int .i64 0, .nilIface, .slice none 0 0, .int .i64 0, .int .i64 0, .int .i64 0, .int .i64 0, .int .i64 0] 87)); (have x0 := DY.c0); (have x1 := DY.c1); (have x2 := DY.c2); (have x3 := DY.c3); (have xf := DY.f))
    clear x0 x1 x2 x3 xf
    have D6 := DY.put (.int .i64 0) (.int .i64 0) (.int .i64 0) (.int .i64 0)
    have B06 : Below w.heap.size w (set4 (w2.alloc (.cells #[.int .i64 0, .int .i64 0, .nilIface, .slice none 0 0, .int .i64 0, .int .i64 0, .int .i64 0, .int .i64 0, .int .i64 0] 87)) (w.heap.size + 1 + 1) (.int .i64 0) (.int .i64 0) (.int .i64 0) (.int .i64 0)) := BY.trans ((only_set4 (w2.alloc (.cells #[.int .i64 0, .int .i64 0, .nilIface, .slice none 0 0, .int .i64 0, .int .i64 0, .int .i64 0, .int .i64 0, .int .i64 0] 87)) (w.heap.size + 1 + 1) _ _ _ _).below (by omega) BY.size)
    unfold set4 at D6 B06
    have r0 := D6.c0
    have r1 := D6.c1
    have r2 := D6.c2
    have r3 := D6.c3
    exact bodyPost_ret (v := .tuple #[.agg #[.int .i64 0, .int .i64 0, .int .i64 0, .int .i64 0], .bool false]) (by simp [results, Try.results37, go_sem, r0, r1, r2, r3]) rfl ⟨rfl, B06⟩
  · rw [if_pos rfl]
    obtain ⟨g1, g2, k0, k1⟩ := fc_iff hb
    obtain ⟨kk, rfl⟩ : ∃ kk : Nat, k = (kk : Int) := ⟨k.toNat, by omega⟩
    rw [show ((kk : Int)).toNat = kk by omega]
    have hkk : kk < n := by omega
    obtain ⟨gs1, gs2, hfb, hnl, hlen⟩ := (gt_iff s y l n F).1 g1
    have hf : l = 1 ∨ l = 2 ∨ l = 3 := by
      rcases fm_cases l with h | h | h | h
      · exact Or.inl h
      · exact Or.inr (Or.inl h)
      · exact Or.inr (Or.inr h)
      · rw [(fm_no h).2.1] at hfb; cases hfb
    have k5 : kk < 5 := by have := lcN_le s y; omega
    have HN : Hid (∀ w', Below w.heap.size w w' → Calls Try.prog 63 #[.agg #[.int .i64 s, .int .i64 y, .int .i64 l, .slice ad n cp], .int .i64 (kk : Int), .int .i64 e, .agg #[.int .i64 c.r, .int .i64 c.g, .int .i64 c.b, .int .i64 c.a]] w' fun e' w'' => ∃ u, e' = .returned (.tuple #[.agg #[.int .i64 (sdI s kk), .int .i64 (sdI y kk), fmV l, u, .int .i64 e, .int .i64 c.r, .int .i64 c.g, .int .i64 c.b, .int .i64 c.a], .bool true]) ∧ BRow w'' u (F kk) ∧ Below w'.heap.size w' w'') := fun w' b => pedged_ok s y l _ n kk F e c w' (HRR.out w' b) hn hfl g1 hkk g2
    have HF : Hid (∀ w' u, BRow w' u (F kk) → Calls Try.prog 64 #[.agg #[.int .i64 (sdI s kk), .int .i64 (sdI y kk), fmV l, u, .int .i64 e, .int .i64 c.r, .int .i64 c.g, .int .i64 c.b, .int .i64 c.a], .int .i64 x, .int .i64 z] w' fun e' w'' => e' = .returned (colV (ftC l (sdI s kk) (sdI y kk) (F kk) x z e c)) ∧ Below w'.heap.size w' w'') := fun w' u r => pfetch l (sdI s kk) (sdI y kk) u (F kk) x z e c w' r hf (fun j hj => bf kk j hkk hj) (sdI_pos s kk) (sdI_le gs1 kk k5) (sdI_pos y kk) (sdI_le gs2 kk k5) (hlen kk hkk) (eg_iff g2) hx hz (hfl kk hkk)
    unfold colV at HF ⊢
    generalize ftC l (sdI s kk) (sdI y kk) (F kk) x z e c = q at HF ⊢
    generalize sdI s kk = A at HN HF
    generalize sdI y kk = B at HN HF
    obtain ⟨ft, hft⟩ := fmV_is hfb
    rw [hft] at HN HF
    clear hft hb g1 g2 HRR hlen gs1 gs2 hfb hnl hf bf
    go_enter Try.func37, Try.ntmps37
    go_wp2_with (first | (go_at_call 63; refine (HN.out _ HB3.out).mono ?_; rintro e9 w2 ⟨u, rfl, hu, B2⟩; (obtain ⟨ua, un, uc, rfl⟩ : ∃ a b c, u = .slice a b c := by obtain ⟨ad', c', h1, _⟩ := hu; exact ⟨_, _, _, h1⟩); (obtain ⟨BXX, T2, K2, DX⟩ := HALL.out w2 B2)) | (go_at_call 64; refine (HF.out _ _ (hu.next (alloc_b (o := (.cells #[.int .i64 A, .int .i64 B, .iface ft (.agg #[]), .slice ua un uc, .int .i64 e, .int .i64 c.r, .int .i64 c.g, .int .i64 c.b, .int .i64 c.a] 87))))).mono ?_; rintro e9 w3 ⟨rfl, B3⟩; (have DY := (DX.next (alloc_b (o := (.cells #[.int .i64 A, .int .i64 B, .iface ft (.agg #[]), .slice ua un uc, .int .i64 e, .int .i64 c.r, .int .i64 c.g, .int .i64 c.b, .int .i64 c.a] 87)))).next B3); (have BY0 := BXX.out.alloc BXX.out.size (.cells #[.int .i64 A, .int .i64 B, .iface ft (.agg #[]), .slice ua un uc, .int .i64 e, .int .i64 c.r, .int .i64 c.g, .int .i64 c.b, .int .i64 c.a] 87)); (have BY := BY0.trans (B3.mono BY0.size)); (have z0 := DY.c0); (have z1 := DY.c1); (have z2 := DY.c2); (have z3 := DY.c3); (have zf := DY.f)))
    clear z0 z1 z2 z3 zf
    have D6 := DY.put (.int .i64 q.r) (.int .i64 q.g) (.int .i64 q.b) (.int .i64 q.a)
    have B06 : Below w.heap.size w (set4 w3 (w.heap.size + 1 + 1) (.int .i64 q.r) (.int .i64 q.g) (.int .i64 q.b) (.int .i64 q.a)) := BY.trans ((only_set4 w3 (w.heap.size + 1 + 1) _ _ _ _).below (by omega) BY.size)
    unfold set4 at D6 B06
    have r0 := D6.c0
    have r1 := D6.c1
    have r2 := D6.c2
    have r3 := D6.c3
    exact bodyPost_ret (v := .tuple #[.agg #[.int .i64 q.r, .int .i64 q.g, .int .i64 q.b, .int .i64 q.a], .bool true]) (by simp [results, Try.results37, go_sem, r0, r1, r2, r3]) rfl ⟨rfl, B06⟩
end Go.Proofs.Ythkngcdfnemhaaa
