/- Draws of places, banks, sizes and lines; what the law on banks asks of them. -/
import Derived.Test.YtfhpjcojccfcoaaCv
import Derived.Test.YtfhpjcojccfcoaaBp
namespace Go.Proofs.Ytfhpjcojccfcoaa
open Go.ChangeShapes Go.WideShapes Go.ChangeAt Go.RowKit
set_option linter.unusedVariables false
set_option maxRecDepth 100000 in
set_option maxHeartbeats 2000000 in
theorem mdrawB (s : Option Addr) (n c : Nat) (f : Nat → Int) (w : World) (hA : Arg w s n (fun i => .int .u8 (f i))) (hf : ∀ i, 0 ≤ f i ∧ f i < 256) (hn : n ≤ 1048576) : Calls Try.prog 11 #[.slice s n c] w fun e w' => ∃ u L x, e = .returned (.tuple #[u, .int .i64 x]) ∧ Ri w.heap.size w' u L ∧ L.length ≤ 201 ∧ Below w.heap.size w w' := by
  have C0 : Cur w.heap.size 0 (w.alloc (.cells #[.slice s n c, .int .i64 0, .int .u64 0] 67)) := ⟨s, n, c, f, 0, 0, heap_alloc_new w _, hn, Int.le_refl _, Int.le_refl _, Int.le_refl _, by decide, by
    rcases hA with h | ⟨o, off, h1, h2, h3⟩
    · exact Or.inl h
    · exact Or.inr ⟨o, off, h1, h2, fun i hi => cell_nx (h3 i hi) alloc_b⟩, hf⟩
  have hac := macc w.heap.size 0 (w.alloc (.cells #[.slice s n c, .int .i64 0, .int .u64 0] 67)) C0 (by decide)
  have hsz : (w.alloc (.cells #[.slice s n c, .int .i64 0, .int .u64 0] 67)).heap.size = w.heap.size + 1 := World.size_alloc _ _
  have HSZ : Hid (w.heap.size ≤ (w.alloc (.cells #[.slice s n c, .int .i64 0, .int .u64 0] 67)).heap.size) := by show _ ≤ _; omega
  have HB0 : Hid (Below w.heap.size w (w.alloc (.cells #[.slice s n c, .int .i64 0, .int .u64 0] 67))) := alloc_b
  clear C0 hA hf hsz
  have HAB : Hid (∀ w3 k', Cur w.heap.size k' w3 → k' ≤ 900000 → Calls Try.prog 42 #[.pointer (some ⟨w.heap.size, 0, none⟩), .slice (some ⟨w3.heap.size, 0, none⟩) 11 11] (w3.alloc (.cells #[.int .i64 1, .int .i64 2, .int .i64 4, .int .i64 8, .int .i64 16, .int .i64 32, .int .i64 64, .int .i64 65, .int .i64 0, .int .i64 3, .int .i64 5] 3)) fun e w' => ∃ x : Int, x ∈ [1, 2, 4, 8, 16, 32, 64, 65, 0, 3, 5] ∧ e = .returned (.int .i64 x) ∧ Cur w.heap.size (k' + 2) w' ∧ Only w.heap.size (w3.alloc (.cells #[.int .i64 1, .int .i64 2, .int .i64 4, .int .i64 8, .int .i64 16, .int .i64 32, .int .i64 64, .int .i64 65, .int .i64 0, .int .i64 3, .int .i64 5] 3)) w') := fun w3 k' c h => amongL c h [1, 2, 4, 8, 16, 32, 64, 65, 0, 3, 5] 11 (by decide) (by decide)
  go_enter Try.func11, Try.ntmps11
  go_wp2_with (first | (go_at_call 41; refine hac.mono ?_; rintro e w2 ⟨u, L, rfl, R2, hL, c2, B2⟩) | (go_at_call 42; refine (HAB.out w2 _ c2 (by omega)).mono ?_; rintro e w3 ⟨x, hx, rfl, c3, o3⟩))
  have B02 : Below w.heap.size w w2 := HB0.out.trans B2
  have R3 := (R2.alloc (.cells #[.int .i64 1, .int .i64 2, .int .i64 4, .int .i64 8, .int .i64 16, .int .i64 32, .int .i64 64, .int .i64 65, .int .i64 0, .int .i64 3, .int .i64 5] 3)).onlyb o3
  have hs2 := B02.size
  have B03 : Below w.heap.size w w3 := (B02.alloc B02.size _).trans (o3.below (Nat.le_refl _) (by rw [World.size_alloc]; omega))
  go_ret2
  exact ⟨_, L, x, rfl, R3.up (by omega), hL, B03⟩
theorem Ri.put {B g cap : Nat} {w : World} {M : List Int} (h : Ri B w (.slice (some ⟨g, 0, none⟩) M.length cap) M) (j : Nat) (hj : j < M.length) (y : Int) : Ri B (w.setCell ⟨g, j, none⟩ (.int .i64 y)) (.slice (some ⟨g, 0, none⟩) M.length cap) (M.set j y) := by
  refine ⟨?_, by have := h.2; simpa using this⟩
  have := (h.1.stored j (.int .i64 y)).1
  rw [List.length_set]
  rw [show il (M.set j y) = (il M).set j (.int .i64 y) by unfold il; rw [List.map_set]]
  exact this
set_option maxRecDepth 100000 in
set_option maxHeartbeats 4000000 in
theorem mdrawC (s : Option Addr) (n c : Nat) (f : Nat → Int) (w : World) (hA : Arg w s n (fun i => .int .u8 (f i))) (hf : ∀ i, 0 ≤ f i ∧ f i < 256) (hn : n ≤ 1048576) : Calls Try.prog 15 #[.slice s n c] w fun e w' => ∃ u L x y, e = .returned (.tuple #[u, .int .i64 x, .int .i64 y]) ∧ Ri w.heap.size w' u L ∧ L.length ≤ 201 ∧ Below w.heap.size w w' := by
  have C0 : Cur w.heap.size 0 (w.alloc (.cells #[.slice s n c, .int .i64 0, .int .u64 0] 67)) := ⟨s, n, c, f, 0, 0, heap_alloc_new w _, hn, Int.le_refl _, Int.le_refl _, Int.le_refl _, by decide, by
    rcases hA with h | ⟨o, off, h1, h2, h3⟩
    · exact Or.inl h
    · exact Or.inr ⟨o, off, h1, h2, fun i hi => cell_nx (h3 i hi) alloc_b⟩, hf⟩
  have hac := macc w.heap.size 0 (w.alloc (.cells #[.slice s n c, .int .i64 0, .int .u64 0] 67)) C0 (by decide)
  have hsz : (w.alloc (.cells #[.slice s n c, .int .i64 0, .int .u64 0] 67)).heap.size = w.heap.size + 1 := World.size_alloc _ _
  have HSZ : Hid (w.heap.size ≤ (w.alloc (.cells #[.slice s n c, .int .i64 0, .int .u64 0] 67)).heap.size) := by show _ ≤ _; omega
  have HB0 : Hid (Below w.heap.size w (w.alloc (.cells #[.slice s n c, .int .i64 0, .int .u64 0] 67))) := alloc_b
  clear C0 hA hf hsz
  have HAS : Hid (∀ w3 k', Cur w.heap.size k' w3 → k' ≤ 900000 → Calls Try.prog 42 #[.pointer (some ⟨w.heap.size, 0, none⟩), .slice (some ⟨w3.heap.size, 0, none⟩) 10 10] (w3.alloc (.cells #[.int .i64 1, .int .i64 2, .int .i64 4, .int .i64 4, .int .i64 4, .int .i64 8, .int .i64 16, .int .i64 3, .int .i64 0, .int .i64 32] 3)) fun e w' => ∃ x : Int, x ∈ [1, 2, 4, 4, 4, 8, 16, 3, 0, 32] ∧ e = .returned (.int .i64 x) ∧ Cur w.heap.size (k' + 2) w' ∧ Only w.heap.size (w3.alloc (.cells #[.int .i64 1, .int .i64 2, .int .i64 4, .int .i64 4, .int .i64 4, .int .i64 8, .int .i64 16, .int .i64 3, .int .i64 0, .int .i64 32] 3)) w') := fun w3 k' c h => amongL c h [1, 2, 4, 4, 4, 8, 16, 3, 0, 32] 10 (by decide) (by decide)
  have HAC : Hid (∀ w3 k', Cur w.heap.size k' w3 → k' ≤ 900000 → Calls Try.prog 42 #[.pointer (some ⟨w.heap.size, 0, none⟩), .slice (some ⟨w3.heap.size, 0, none⟩) 7 7] (w3.alloc (.cells #[.int .i64 16, .int .i64 32, .int .i64 64, .int .i64 128, .int .i64 256, .int .i64 8, .int .i64 48] 3)) fun e w' => ∃ x : Int, x ∈ [16, 32, 64, 128, 256, 8, 48] ∧ e = .returned (.int .i64 x) ∧ Cur w.heap.size (k' + 2) w' ∧ Only w.heap.size (w3.alloc (.cells #[.int .i64 16, .int .i64 32, .int .i64 64, .int .i64 128, .int .i64 256, .int .i64 8, .int .i64 48] 3)) w') := fun w3 k' c h => amongL c h [16, 32, 64, 128, 256, 8, 48] 7 (by decide) (by decide)
  go_enter Try.func15, Try.ntmps15
  go_wp2_with (first | (go_at_call 41; refine hac.mono ?_; rintro e w2 ⟨u, L, rfl, R2, hL, c2, B2⟩; (obtain ⟨ua, uc, hu, _⟩ := R2.arow); (subst hu); (have B02 : Below w.heap.size w w2 := HB0.out.trans B2); (have hs2 : w.heap.size ≤ w2.heap.size := B02.size)) | (go_at_call 42; (with_reducible show Calls Try.prog 42 #[_, .slice _ 10 _] _ _); refine (HAS.out w2 _ c2 (by omega)).mono ?_; rintro e w3 ⟨x, hx, rfl, c3, o3⟩; (have R3 : Ri (w.heap.size + 1) w3 (.slice ua L.length uc) L := (R2.alloc (.cells #[.int .i64 1, .int .i64 2, .int .i64 4, .int .i64 4, .int .i64 4, .int .i64 8, .int .i64 16, .int .i64 3, .int .i64 0, .int .i64 32] 3)).onlyb o3); (have B03 : Below w.heap.size w w3 := (B02.alloc B02.size _).trans (o3.below (Nat.le_refl _) (by rw [World.size_alloc]; omega)))) | (go_at_call 48; refine (one30 w.heap.size (0 + 2000 + 2) 4 w3 (by omega) c3 (by decide) (by decide)).mono ?_; rintro e w4 ⟨t4, rfl, c4, o4⟩; (have R4 := R3.onlyb o4); (have hs3 := B03.size); (have B04 : Below w.heap.size w w4 := B03.trans (o4.below (Nat.le_refl _) (by omega)))) | (go_at_call 42; (with_reducible show Calls Try.prog 42 #[_, .slice _ 7 _] (World.alloc w4 _) _); refine (HAC.out w4 _ c4 (by omega)).mono ?_; rintro e w5 ⟨y, hy, rfl, c5, o5⟩; (have RN : Ri (w.heap.size + 1) w5 (.slice ua L.length uc) L := (R4.alloc (.cells #[.int .i64 16, .int .i64 32, .int .i64 64, .int .i64 128, .int .i64 256, .int .i64 8, .int .i64 48] 3)).onlyb o5); (have hs4 := B04.size); (have BN : Below w.heap.size w w5 := (B04.alloc B04.size _).trans (o5.below (Nat.le_refl _) (by rw [World.size_alloc]; omega)))) | (go_at_call 42; (with_reducible show Calls Try.prog 42 #[_, .slice _ 7 _] (World.alloc w3 _) _); refine (HAC.out w3 _ c3 (by omega)).mono ?_; rintro e w5 ⟨y, hy, rfl, c5, o5⟩; (have RN : Ri (w.heap.size + 1) w5 (.slice ua L.length uc) L := (R3.alloc (.cells #[.int .i64 16, .int .i64 32, .int .i64 64, .int .i64 128, .int .i64 256, .int .i64 8, .int .i64 48] 3)).onlyb o5); (have hs4 := B03.size); (have BN : Below w.heap.size w w5 := (B03.alloc B03.size _).trans (o5.below (Nat.le_refl _) (by rw [World.size_alloc]; omega)))))
  all_goals first
    | exact bodyPost_ret (v := .tuple #[.slice ua L.length uc, .int .i64 x, .int .i64 y]) (by simp [results, Try.results15, go_sem]) rfl ⟨_, L, x, y, rfl, RN.up (by omega), hL, BN⟩
    | skip
  have hx0 : ¬ x = 0 := by omega
  have HC4 : Hid (Cur w.heap.size 2004 w4) := c4.mono (by omega)
  have HR4 := Hid.mk R4
  have HB4 := Hid.mk B04
  clear c2 c3 c4 R2 R3 R4 B02 B03 B04 B2 o3 o4 hac
  obtain ⟨ln, hln⟩ : ∃ ln, L.length = ln := ⟨_, rfl⟩
  have HLN : Hid (L.length = ln) := hln
  rw [hln] at HR4 hL ⊢
  clear hln
  go_loopw [26] (fun ii wr => ∃ (k : Nat) (L' : List Int), k ≤ ln ∧ ii = .int .i64 k ∧ L'.length = ln ∧ Hid (Ri (w.heap.size + 1) wr (.slice ua ln uc) L') ∧ Hid (Cur w.heap.size 2004 wr) ∧ Hid (Below w.heap.size w wr)) (fun ii _ => ln - (intOf ii).toNat)
  case atStart => exact ⟨0, L, Nat.zero_le _, rfl, HLN.out, HR4, HC4, HB4⟩
  case round =>
    obtain ⟨k, L', hk, rfl, hl', HR, HCu, HB⟩ := hrel
    have HL' : Hid (L'.length = ln) := hl'
    by_cases hkn : k < ln
    · have i1 : (k : Int) < (ln : Int) := by omega
      have i0 : (0 : Int) ≤ (k : Int) := by omega
      obtain ⟨g, cc, hf, _⟩ := World.ownsRow.form HR.out.1 (by omega)
      injection hf with hf1 hf2 hf3
      subst hf1
      have hR2 : Ri (w.heap.size + 1) wr (.slice (some ⟨g, 0, none⟩) L'.length uc) L' := by rw [hl']; exact HR.out
      have O := own_owned hR2.1 (fun i => .int .i64 (L'.getD i 0)) (fun i hi => by unfold il; rw [List.getElem?_map, List.getD_eq_getElem?_getD, List.getElem?_eq_getElem hi]; rfl)
      have hg := (hR2.lt g rfl).1
      have c1 := O.cell k (by omega)
      have f1 := O.free k
      have HP : Hid (∀ v : Int, Ri (w.heap.size + 1) (wr.setCell ⟨g, k, none⟩ (.int .i64 v)) (.slice (some ⟨g, 0, none⟩) ln uc) (L'.set k v)) := fun v => by have h := hR2.put k (by omega) v; rw [hl'] at h; exact h
      have HG : Hid (∀ v : Int, Cur w.heap.size 2004 (wr.setCell ⟨g, k, none⟩ (.int .i64 v)) ∧ Below w.heap.size w (wr.setCell ⟨g, k, none⟩ (.int .i64 v))) := fun v => by
        have ON : Only g wr (wr.setCell ⟨g, k, none⟩ (.int .i64 v)) := (Only.refl _ _).setCell _ _
        exact ⟨HCu.out.grown (r := some g) ⟨ON.os, ON.tape, ON.output, ON.size, fun k hk hne => ON.block k hk (fun q => hne (by rw [q]))⟩ (fun q e => by have := Option.some.inj e; omega), HB.out.trans (ON.below (by omega) HB.out.size)⟩
      clear O hR2 hf2 hf3 hl'
      generalize L'.getD k 0 = z at c1
      go_wp2
      go_roundw
      case rel => exact ⟨k + 1, L'.set k _, by omega, by go_num, by rw [List.length_set]; exact HL'.out, HP.out _, (HG.out _).1, (HG.out _).2⟩
      case measure => simp [intOf]; omega
    · obtain rfl : ln = k := by omega
      have i1 : ¬ (ln : Int) < (ln : Int) := by omega
      clear hl'
      have hs9 := HB.out.size
      go_wp2_with (go_at_call 42; refine (HAC.out wr _ HCu.out (by omega)).mono ?_; rintro e w5 ⟨y, hy, rfl, c5, o5⟩)
      have RN : Ri (w.heap.size + 1) w5 (.slice ua ln uc) L' := (HR.out.alloc (.cells #[.int .i64 16, .int .i64 32, .int .i64 64, .int .i64 128, .int .i64 256, .int .i64 8, .int .i64 48] 3)).onlyb o5
      have BN : Below w.heap.size w w5 := (HB.out.alloc HB.out.size _).trans (o5.below (Nat.le_refl _) (by rw [World.size_alloc]; omega))
      exact bodyPost_ret (v := .tuple #[.slice ua ln uc, .int .i64 x, .int .i64 y]) (by simp [results, Try.results15, go_sem]) rfl ⟨_, L', x, y, rfl, RN.up (by omega), by rw [HL'.out]; omega, BN⟩
set_option maxRecDepth 100000 in
set_option maxHeartbeats 2000000 in
theorem munlike (l : List Int) (v : Value) (w : World) (Q : ARow w v l) (hl : l.length ≤ 900) : Calls Try.prog 14 #[v] w fun e w' => e = .returned (.int .i64 ((srt l).length : Int)) ∧ Below w.heap.size w w' := by
  obtain ⟨oa, oc, rfl, hoa⟩ := Q
  have HOA := Hid.mk hoa
  have HS : Hid (∀ k, k < l.length → srt (l.take (k + 1)) = insU (l.getD k 0) (srt (l.take k))) := fun k hk => srt_take l k hk
  have HL : Hid (∀ k, (srt (l.take k)).length ≤ 900) := fun k => Nat.le_trans (srt_len _) (by rw [List.length_take]; omega)
  have HT : Hid (srt (l.take l.length) = srt l) := by show _ = _; rw [List.take_length]
  obtain ⟨n, hn⟩ : ∃ n, l.length = n := ⟨_, rfl⟩
  rw [hn] at HOA HS HT hl ⊢
  clear hn hoa
  go_enter Try.func14, Try.ntmps14
  go_wp2
  go_loopw [3, 8] (fun u i wr => ∃ k : Nat, k ≤ n ∧ i = .int .i64 k ∧ Hid (Ri w.heap.size wr u (srt (l.take k))) ∧ Hid (Below w.heap.size w wr)) (fun _ i _ => n - (intOf i).toNat)
  case atStart => exact ⟨0, Nat.zero_le _, rfl, Ri.nil _ _ (Nat.le_refl _), Below.refl _ _⟩
  case round =>
    obtain ⟨k, hk, rfl, HU, HB⟩ := hrel
    by_cases hkn : k < n
    · have i1 : (k : Int) < (n : Int) := by omega
      have i0 : (0 : Int) ≤ (k : Int) := by omega
      obtain ⟨g, o, rfl, hc0⟩ := HOA.out k hkn
      have hc := cell_nx hc0 HB.out
      have hs := Hid.mk (HS.out k hkn)
      have h47 := mput w.heap.size _ _ (l.getD k 0) wr HU.out (Nat.le_trans (HL.out k) (by decide))
      clear hc0
      generalize l.getD k 0 = x at hc hs h47
      go_wp2_with (go_at_call 47; refine h47.mono ?_; rintro e w3 ⟨v3, rfl, R3, B3⟩)
      have R3h : Hid (Ri w.heap.size w3 v3 (srt (l.take (k + 1)))) := by show Ri _ _ _ _; rw [hs.out]; exact R3
      have B3h : Hid (Below w.heap.size w w3) := HB.out.trans (B3.mono HB.out.size)
      clear R3 B3 h47
      go_roundw
      case rel => exact ⟨k + 1, by omega, by go_num, R3h, B3h⟩
      case measure => simp [intOf]; omega
    · obtain rfl : n = k := by omega
      have i1 : ¬ (n : Int) < (n : Int) := by omega
      obtain ⟨ua, uc, hu, _⟩ := HU.out.arow
      subst hu
      go_wp2
      go_ret
      exact ⟨by rw [HT.out]; rfl, HB.out⟩
set_option maxRecDepth 100000 in
set_option maxHeartbeats 2000000 in
theorem msame {w : World} {u v : Value} {L : List Int} (hn : L.length ≤ 1048576) (U : ARow w u L) (V : ARow w v L) : Calls Try.prog 54 #[u, v] w fun r w' => r = .returned (.bool true) ∧ ∃ k, w' = w.drewN k := by
  obtain ⟨ada, ca, rfl, ha0⟩ := U
  obtain ⟨adb, cb, rfl, hb0⟩ := V
  have ha := Hid.mk ha0
  have hb := Hid.mk hb0
  clear ha0 hb0
  obtain ⟨n, hnn⟩ : ∃ n, L.length = n := ⟨_, rfl⟩
  rw [hnn] at ha hb hn ⊢
  clear hnn
  go_enter Try.func54, Try.ntmps54
  go_wp2
  go_loopw [13] (fun i wx => ∃ k q : Nat, k ≤ n ∧ i = .int .i64 k ∧ wx = w.drewN q) (fun i _ => n - (intOf i).toNat)
  case atStart => exact ⟨0, 0, by omega, rfl, rfl⟩
  case round =>
    obtain ⟨k, q, hk, rfl, rfl⟩ := hrel
    by_cases hkn : k < n
    · obtain ⟨ga, oa, rfl, c1⟩ := ha.out k hkn
      obtain ⟨gb, ob, rfl, c2⟩ := hb.out k hkn
      have i0 : (0 : Int) ≤ (k : Int) := by omega
      have i1 : (k : Int) < (n : Int) := by omega
      go_wp2
      go_quiet (fail)
      go_wp2
      go_roundw
      case rel => exact ⟨k + 1, _, by omega, by go_num, rfl⟩
      case measure => simp [intOf]; omega
    · have hkk : k = n := by omega
      subst hkk
      go_wp2
      go_ret
      exact ⟨rfl, q, rfl⟩
set_option maxRecDepth 100000 in
set_option maxHeartbeats 2000000 in
theorem mlinesof (l : List Int) (v u : Value) (ln : Int) (w : World) (Q : ARow w v l) (V : ARow w u (srt (linesL l ln))) (ha : accB l = true) (h1 : 16 ≤ ln) (h2 : ln ≤ 256) : Calls Try.prog 18 #[v, .int .i64 ln, u] w fun e w' => e = .returned (.bool true) ∧ Below w.heap.size w w' := by
  obtain ⟨l200, hpl⟩ := accB_at ha
  obtain ⟨oa, oc, rfl, hoa⟩ := Q
  have HOA := Hid.mk hoa
  have HPL := Hid.mk hpl
  have HS : Hid (∀ k, k < l.length → srt (linesL (l.take (k + 1)) ln) = insU (l.getD k 0 / ln) (srt (linesL (l.take k) ln))) := fun k hk => srt_lines l ln k hk
  have HL : Hid (∀ k, (srt (linesL (l.take k) ln)).length ≤ 900) := fun k => Nat.le_trans (srt_len _) (by rw [linesL_len, List.length_take]; omega)
  have HT : Hid (srt (linesL (l.take l.length) ln) = srt (linesL l ln)) := by show _ = _; rw [List.take_length]
  have HV : Hid (∀ w', Below w.heap.size w w' → ARow w' u (srt (linesL l ln))) := fun w' b => V.next b
  have HVL : Hid ((srt (linesL l ln)).length ≤ 1048576) := by show _ ≤ _; exact Nat.le_trans (srt_len _) (by rw [linesL_len]; omega)
  obtain ⟨va, vc, hv, _⟩ := V
  obtain ⟨vn, hvn⟩ : ∃ vn, (srt (linesL l ln)).length = vn := ⟨_, rfl⟩
  rw [hvn] at hv
  obtain ⟨n, hn⟩ : ∃ n, l.length = n := ⟨_, rfl⟩
  rw [hn] at HOA HS HT HPL l200 ⊢
  have l0 : ¬ ln = 0 := by omega
  clear hn hoa hpl hvn ha
  subst hv
  go_enter Try.func18, Try.ntmps18
  go_wp2
  go_loopw [7, 12] (fun u i wr => ∃ k : Nat, k ≤ n ∧ i = .int .i64 k ∧ Hid (Ri w.heap.size wr u (srt (linesL (l.take k) ln))) ∧ Hid (Below w.heap.size w wr)) (fun _ i _ => n - (intOf i).toNat)
  case atStart => exact ⟨0, Nat.zero_le _, rfl, Ri.nil _ _ (Nat.le_refl _), Below.refl _ _⟩
  case round =>
    obtain ⟨k, hk, rfl, HU, HB⟩ := hrel
    by_cases hkn : k < n
    · have i1 : (k : Int) < (n : Int) := by omega
      have i0 : (0 : Int) ≤ (k : Int) := by omega
      obtain ⟨g, o, rfl, hc0⟩ := HOA.out k hkn
      have hc := cell_nx hc0 HB.out
      have hp := HPL.out k hkn
      have hs := Hid.mk (HS.out k hkn)
      obtain ⟨d1, d2, d3⟩ := div_line hp.1 hp.2 (show 1 ≤ ln by omega)
      have h47 := mput w.heap.size _ _ (l.getD k 0 / ln) wr HU.out (Nat.le_trans (HL.out k) (by decide))
      clear hc0
      generalize l.getD k 0 = x at hc hs h47 hp d1 d2 d3
      generalize x / ln = y at hs h47 d1 d2 d3
      go_wp2_with (go_at_call 47; refine h47.mono ?_; rintro e w3 ⟨v3, rfl, R3, B3⟩)
      have R3h : Hid (Ri w.heap.size w3 v3 (srt (linesL (l.take (k + 1)) ln))) := by show Ri _ _ _ _; rw [hs.out]; exact R3
      have B3h : Hid (Below w.heap.size w w3) := HB.out.trans (B3.mono HB.out.size)
      clear R3 B3 h47
      go_roundw
      case rel => exact ⟨k + 1, by omega, by go_num, R3h, B3h⟩
      case measure => simp [intOf]; omega
    · obtain rfl : n = k := by omega
      have i1 : ¬ (n : Int) < (n : Int) := by omega
      have hU := HU.out
      rw [HT.out] at hU
      have h54 := msame HVL.out hU.arow (HV.out _ HB.out)
      go_wp2_with (go_at_call 54; refine h54.mono ?_; rintro e w5 ⟨rfl, q5, hw5⟩)
      go_ret
      first | exact ⟨rfl, below_drewN HB.out q5⟩ | exact ⟨rfl, by rw [hw5]; exact below_drewN HB.out q5⟩
theorem cnt_step (b : Int) (c : Nat) (S : List Int) : S.countP (fun x => decide (0 ≤ x % b) && decide (x % b < ((c + 1 : Nat) : Int))) ≤ S.countP (fun x => decide (0 ≤ x % b) && decide (x % b < (c : Int))) + cnt b S c := by
  unfold cnt
  induction S with
  | nil => simp
  | cons x S ih =>
    rw [List.countP_cons, List.countP_cons, List.countP_cons]
    have hx : (if (decide (0 ≤ x % b) && decide (x % b < ((c + 1 : Nat) : Int))) = true then 1 else 0) ≤ (if (decide (0 ≤ x % b) && decide (x % b < (c : Int))) = true then 1 else 0) + (if (x % b == (c : Int)) = true then 1 else 0) := by
      by_cases h1 : (decide (0 ≤ x % b) && decide (x % b < ((c + 1 : Nat) : Int))) = true
      · rw [if_pos h1]
        by_cases h2 : (decide (0 ≤ x % b) && decide (x % b < (c : Int))) = true
        · rw [if_pos h2]; omega
        · rw [if_neg h2]
          by_cases h3 : (x % b == (c : Int)) = true
          · rw [if_pos h3]; omega
          · exfalso
            simp at h1 h2 h3
            have h4 := h2 h1.1
            omega
      · rw [if_neg h1]; omega
    omega
/-- How many are in the first c banks. -/
theorem cnt_below (b : Int) (S : List Int) : ∀ c : Nat, S.countP (fun x => decide (0 ≤ x % b) && decide (x % b < (c : Int))) ≤ c * mx (cnt b S) c
  | 0 => by
    have : S.countP (fun x => decide (0 ≤ x % b) && decide (x % b < ((0 : Nat) : Int))) = 0 := by
      rw [List.countP_eq_zero]
      intro x _
      simp
    omega
  | c + 1 => by
    have ih := cnt_below b S c
    have e := cnt_step b c S
    have m1 : mx (cnt b S) c ≤ mx (cnt b S) (c + 1) := by rw [mx]; omega
    have m2 : cnt b S c ≤ mx (cnt b S) (c + 1) := by rw [mx]; omega
    have m3 := Nat.mul_le_mul_left c m1
    rw [Nat.succ_mul]
    omega
theorem bank_bounds (l : List Int) (b : Int) (h1 : 1 ≤ b) (h2 : b ≤ 64) : bankV l b ≤ (srt l).length ∧ (srt l).length ≤ b.toNat * bankV l b := by
  obtain ⟨m, rfl⟩ : ∃ m : Nat, b = (m : Int) := ⟨b.toNat, by omega⟩
  have e : bankV l (m : Int) = mx (cnt (m : Int) (srt l)) m := by
    unfold bankV
    rw [Int.toNat_natCast]
    exact bank_srt l m m (by omega) (Nat.le_refl _)
  rw [e, Int.toNat_natCast]
  refine ⟨mx_le _ _ _ (fun r _ => cnt_le _ _ _), ?_⟩
  refine Nat.le_trans (Nat.le_of_eq ?_) (cnt_below (m : Int) (srt l) m)
  rw [eq_comm, List.countP_eq_length]
  intro x _
  have q1 := Int.emod_nonneg x (show (m : Int) ≠ 0 by omega)
  have q2 := Int.emod_lt_of_pos x (show 0 < (m : Int) by omega)
  simp [q1, q2]
end Go.Proofs.Ytfhpjcojccfcoaa
