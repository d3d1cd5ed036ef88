/- The model's copy of a cache. -/
import Derived.Test.YtfhpjcojccfcoaaMr
namespace Go.Proofs.Ytfhpjcojccfcoaa
open Go.ChangeShapes Go.WideShapes Go.ChangeAt Go.RowKit
set_option linter.unusedVariables false
/-- Another block heads the same sets. -/
theorem Kx.rehead {B hb hb' gm m : Nat} {w : World} {U : Nat → Value} {L : Nat → List Int} (h : Kx B w hb gm m U L) (h1 : hb' < w.heap.size) (h2 : gm ≠ hb') (h3 : ∀ x, x < m → (U x).ownBlock ≠ some hb') (h4 : B ≤ hb') : Kx B w hb' gm m U L := ⟨h.c, h.r, h.ap, h.ng, h3, h2, h.f, h.hg, h1, h.bg, h4⟩
theorem Kx.congr {B hb gm m : Nat} {w : World} {U : Nat → Value} {L L' : Nat → List Int} (h : Kx B w hb gm m U L) (e : ∀ x, x < m → L x = L' x) : Kx B w hb gm m U L' := ⟨h.c, fun x hx => (e x hx) ▸ h.r x hx, h.ap, h.ng, h.nh, h.gh, h.f, h.hg, h.hh, h.bg, h.bh⟩
set_option maxRecDepth 100000 in
set_option maxHeartbeats 1000000 in
theorem mclone (s y l p c : Int) (v : Value) (m : Nat) (f : Nat → List Int) (w : World) (R : ARows w v m f) (hm : m ≤ 64) (hf : ∀ x, x < m → (f x).length ≤ 8) : Calls Try.prog 63 #[.agg #[.int .i64 s, .int .i64 y, .int .i64 l, .int .i64 p, v, .int .i64 c]] w fun e w' => ∃ U, e = .returned (.agg #[.int .i64 s, .int .i64 y, .int .i64 l, .int .i64 p, .slice (some ⟨w.heap.size + 1 + 1, 0, none⟩) m m, .int .i64 c]) ∧ Kx w.heap.size w' w.heap.size (w.heap.size + 1 + 1) m U f ∧ Below w.heap.size w w' := by
  obtain ⟨iS, hiS, hzS0, hzS1, hzS2⟩ := info_parts infoS
  obtain ⟨i3, hi3, hz30, hz31, hz32⟩ := info_parts info3
  obtain ⟨ad, cap, rfl, hR⟩ := R
  have HR := Hid.mk hR
  have HF := Hid.mk hf
  clear hR hf
  go_enter Try.func63, Try.ntmps63
  go_wp2_with (at_make; refine wpList_make_full _ rfl _ _ 40 rfl w.heap.size 23 iS (.slice none 0 0) 1 Try.underlying40 hiS hzS0 hzS1 _ _ _ _ m rfl rfl (by first | rfl | omega) (by first | rfl | omega) (by rw [hzS2]; omega) (by unfold maxLen; omega) (by simp; omega) ?_; intro w2 hown2 hgrow2; (have B2 := (show Below (w.heap.size + 2) ((w.alloc (.cells #[.int .i64 s, .int .i64 y, .int .i64 l, .int .i64 p, .slice ad m cap, .int .i64 c] 42)).alloc (.cells #[.int .i64 0, .int .i64 0, .int .i64 0, .int .i64 0, .slice none 0 0, .int .i64 0] 42)) w2 from (Below.refl _ _).grown hgrow2 (by simp) (by simp))); (have CA := ((C6.new w 42 (.int .i64 s) (.int .i64 y) (.int .i64 l) (.int .i64 p) (.slice ad m cap) (.int .i64 c)).next alloc_b).next (by rw [World.size_alloc, World.size_alloc]; exact B2)); (have q4 := CA.c4))
  have O2 : Own w2 (w.heap.size + 1 + 1) m (fun _ => .slice none 0 0) := by have h := own_made hown2; rw [World.size_alloc, World.size_alloc] at h; exact h
  have HCA : Hid (C6 w2 w.heap.size (.int .i64 s) (.int .i64 y) (.int .i64 l) (.int .i64 p) (.slice ad m cap) (.int .i64 c)) := CA
  have HCB : Hid (C6 w2 (w.heap.size + 1) (.int .i64 0) (.int .i64 0) (.int .i64 0) (.int .i64 0) (.slice none 0 0) (.int .i64 0)) := by
    have h := (C6.new (w.alloc (.cells #[.int .i64 s, .int .i64 y, .int .i64 l, .int .i64 p, .slice ad m cap, .int .i64 c] 42)) 42 (.int .i64 0) (.int .i64 0) (.int .i64 0) (.int .i64 0) (.slice none 0 0) (.int .i64 0)).next (w' := w2) (by rw [World.size_alloc, World.size_alloc]; exact B2)
    rw [World.size_alloc] at h
    exact h
  have hw2 := O2.hi
  have HB0 : Hid (Below w.heap.size w w2) := ((alloc_b (v := w)).trans ((alloc_b (v := w.alloc (.cells #[.int .i64 s, .int .i64 y, .int .i64 l, .int .i64 p, .slice ad m cap, .int .i64 c] 42))).mono (by rw [World.size_alloc]; omega))).trans (B2.mono (by omega))
  have HK0 : Hid (Kx w.heap.size w2 w.heap.size (w.heap.size + 1 + 1) m (fun _ => .slice none 0 0) (fun x => if x < 0 then f x else [])) := ⟨fun x hx => O2.cell x hx, fun x hx => by rw [if_neg (Nat.not_lt_zero _)]; exact Ri.nil _ _ (by omega), fun x y hx hy hne q e => (by cases e), fun x hx e => (by cases e), fun x hx e => (by cases e), by omega, fun i => O2.free i, hw2, by omega, by omega, Nat.le_refl _⟩
  clear O2 CA q4 B2 hown2 hgrow2
  go_loopw [13] (fun ii wr => ∃ (k : Nat) (U : Nat → Value), k ≤ m ∧ ii = .int .i64 k ∧ Hid (Kx w.heap.size wr w.heap.size (w.heap.size + 1 + 1) m U (fun x => if x < k then f x else [])) ∧ Hid (C6 wr w.heap.size (.int .i64 s) (.int .i64 y) (.int .i64 l) (.int .i64 p) (.slice ad m cap) (.int .i64 c)) ∧ Hid (C6 wr (w.heap.size + 1) (.int .i64 0) (.int .i64 0) (.int .i64 0) (.int .i64 0) (.slice none 0 0) (.int .i64 0)) ∧ Hid (Below w.heap.size w wr) ∧ Hid (∀ x, x < m → ∀ q, (U x).ownBlock = some q → w.heap.size + 2 < q)) (fun ii _ => m - (intOf ii).toNat)
  case atStart => exact ⟨0, _, Nat.zero_le _, rfl, HK0, HCA, HCB, HB0, fun x hx q e => by cases e⟩
  case round =>
    obtain ⟨k, U, hk, rfl, HK, HA, HZ, HB, HO⟩ := hrel
    by_cases hkm : k < m
    · have i1 : (k : Int) < (m : Int) := by omega
      have i0 : (0 : Int) ≤ (k : Int) := by omega
      obtain ⟨q, o, u, rfl, hcu, RU⟩ := HR.out k hkm
      have hcu1 := cell_nx hcu HB.out
      have HRU : Hid (ARow wr u (f k)) := RU.next HB.out
      have hfl := HF.out k hkm
      have HSZ : Hid (w.heap.size ≤ wr.heap.size) := HB.out.size
      clear hcu RU
      go_wp2_with (at_builtin; refine wpList_append_ri _ _ Try.underlying23 hi3 hz30 hz31 hz32 rfl rfl rfl rfl (Ri.empty w.heap.size wr HSZ.out) (HRU.out.next alloc_b) (by simp only [List.length_nil]; omega) ?_)
      intro v2 w3 R2 G2 A2
      obtain ⟨va, vn, vc, rfl⟩ : ∃ va vn vc, v2 = .slice va vn vc := by obtain ⟨a, c, h, _⟩ := R2.arow; exact ⟨_, _, _, h⟩
      have hsa : (wr.alloc (.cells #[] 3)).heap.size = wr.heap.size + 1 := World.size_alloc _ _
      have K1 := HK.out.next (alloc_b (v := wr) (o := .cells #[] 3))
      have hgm := HK.out.hg
      have hcb := HK.out.hh
      have hrb := HZ.out.hi
      have nn : ∀ q, wr.heap.size ≤ q → (∀ x, x < m → (U x).ownBlock ≠ some q) ∧ q ≠ w.heap.size + 1 + 1 ∧ q ≠ w.heap.size := fun q hq => ⟨fun x hx e => by have := (HK.out.lt x hx q e).2; omega, by omega, by omega⟩
      have ov : ∀ q, (Value.slice va vn vc).ownBlock = some q → wr.heap.size ≤ q := fun q hq => by
        rcases A2 with e | e
        · rw [e] at hq; have h3 : wr.heap.size = q := Option.some.inj hq; omega
        · rw [e] at hq; have h3 : wr.heap.size + 1 = q := Option.some.inj hq; omega
      have KN := Kx.put K1 hkm G2 (fun q hq => Or.inr (nn q (by have h3 : wr.heap.size = q := Option.some.inj hq; omega))) R2 (fun q hq => Or.inr (nn q (ov q hq)))
      have KN2 : Hid (Kx w.heap.size (w3.setCell ⟨w.heap.size + 1 + 1, k, none⟩ (Value.slice va vn vc)) w.heap.size (w.heap.size + 1 + 1) m (upV U k (Value.slice va vn vc)) (fun x => if x < k + 1 then f x else [])) := KN.congr (fun x hx => by
        unfold upL
        by_cases e : x = k
        · subst e; rw [if_pos rfl, if_pos (by omega)]; first | done | rfl
        · rw [if_neg e]
          show (if x < k then f x else []) = if x < k + 1 then f x else []
          by_cases e2 : x < k
          · rw [if_pos e2, if_pos (by omega)]
          · rw [if_neg e2, if_neg (by omega)])
      have bk : ∀ b, b < wr.heap.size → w3.heap[b]? = wr.heap[b]? := fun b hb => (G2.block b (by omega) (fun e => by have h3 : b = wr.heap.size := Option.some.inj e; omega)).trans ((alloc_b (v := wr) (o := .cells #[] 3)).block b hb)
      have hs3 : wr.heap.size ≤ w3.heap.size := by have := G2.size; omega
      have hcg : w3.cell? ⟨w.heap.size + 1 + 1, k, none⟩ = some (U k) := (World.cell?_of_block (w := wr) (a := ⟨w.heap.size + 1 + 1, k, none⟩) (bk _ hgm)).trans (HK.out.c k hkm)
      have fcg : w3.frozen? ⟨w.heap.size + 1 + 1, k, none⟩ = false := (World.frozen?_of_block (w := wr) (a := ⟨w.heap.size + 1 + 1, k, none⟩) (bk _ hgm)).trans (HK.out.f k)
      have ON : Only (w.heap.size + 1 + 1) w3 (w3.setCell ⟨w.heap.size + 1 + 1, k, none⟩ (Value.slice va vn vc)) := (Only.refl _ _).setCell _ _
      have NA : Hid (C6 (w3.setCell ⟨w.heap.size + 1 + 1, k, none⟩ (Value.slice va vn vc)) w.heap.size (.int .i64 s) (.int .i64 y) (.int .i64 l) (.int .i64 p) (.slice (some ⟨q, o, none⟩) m cap) (.int .i64 c)) := HA.out.block ((ON.block _ (by omega) (by omega)).trans (bk _ hcb)) (Nat.le_trans hs3 ON.size)
      have NZ : Hid (C6 (w3.setCell ⟨w.heap.size + 1 + 1, k, none⟩ (Value.slice va vn vc)) (w.heap.size + 1) (.int .i64 0) (.int .i64 0) (.int .i64 0) (.int .i64 0) (.slice none 0 0) (.int .i64 0)) := HZ.out.block ((ON.block _ (by omega) (by omega)).trans (bk _ hrb)) (Nat.le_trans hs3 ON.size)
      have NB : Hid (Below w.heap.size w (w3.setCell ⟨w.heap.size + 1 + 1, k, none⟩ (Value.slice va vn vc))) := HB.out.trans ⟨ON.os.trans G2.os, ON.tape.trans G2.tape, ON.output.trans G2.output, Nat.le_trans hs3 ON.size, fun b hb => (ON.block b (by omega) (by omega)).trans (bk b (by omega))⟩
      have NO : Hid (∀ x, x < m → ∀ q, (upV U k (Value.slice va vn vc) x).ownBlock = some q → w.heap.size + 2 < q) := fun x hx q hq => by
        unfold upV at hq
        by_cases e : x = k
        · rw [if_pos e] at hq; have := ov q hq; omega
        · rw [if_neg e] at hq; exact HO.out x hx q hq
      clear KN K1 R2 G2 A2 bk nn ov ON hcu1 hfl
      go_wp2
      go_roundw
      case rel => exact ⟨k + 1, upV U k (Value.slice va vn vc), by omega, by go_num, KN2, NA, NZ, NB, NO⟩
      case measure => simp [intOf]; omega
    · obtain rfl : m = k := by omega
      have i1 : ¬ (m : Int) < (m : Int) := by omega
      have f4 := HA.out.f 4
      have C1 := HA.out.s4 (.slice (some ⟨w.heap.size + 1 + 1, 0, none⟩) m m)
      have qa4 := HA.out.c4
      have qa0 := HA.out.c0
      have qa1 := HA.out.c1
      have qa2 := HA.out.c2
      have qa3 := HA.out.c3
      have qa5 := HA.out.c5
      have qz0 := HZ.out.c0
      have qz1 := HZ.out.c1
      have qz2 := HZ.out.c2
      have qz3 := HZ.out.c3
      have qz4 := HZ.out.c4
      have qz5 := HZ.out.c5
      have fz := HZ.out.f
      go_wp2
      have O1 : Only w.heap.size wr (wr.setCell ⟨w.heap.size, 4, none⟩ (.slice (some ⟨w.heap.size + 1 + 1, 0, none⟩) m m)) := (Only.refl _ _).setCell _ _
      have N1 : C6 (wr.setCell ⟨w.heap.size, 4, none⟩ (.slice (some ⟨w.heap.size + 1 + 1, 0, none⟩) m m)) (w.heap.size + 1) (.int .i64 0) (.int .i64 0) (.int .i64 0) (.int .i64 0) (.slice none 0 0) (.int .i64 0) := HZ.out.block (O1.block _ HZ.out.hi (by omega)) O1.size
      have FN := N1.put (.int .i64 s) (.int .i64 y) (.int .i64 l) (.int .i64 p) (.slice (some ⟨w.heap.size + 1 + 1, 0, none⟩) m m) (.int .i64 c)
      have O2 := only_set6 (wr.setCell ⟨w.heap.size, 4, none⟩ (.slice (some ⟨w.heap.size + 1 + 1, 0, none⟩) m m)) (w.heap.size + 1) (.int .i64 s) (.int .i64 y) (.int .i64 l) (.int .i64 p) (.slice (some ⟨w.heap.size + 1 + 1, 0, none⟩) m m) (.int .i64 c)
      have K1 := (HK.out.head O1).1
      have hh := HK.out.hh
      have K2 := (K1.rehead (hb' := w.heap.size + 1) N1.hi (by omega) (fun x hx e => by have := HO.out x hx _ e; omega) (by omega)).head O2 |>.1
      have K3 := (K2.rehead (hb' := w.heap.size) (by have := O2.size; have := O1.size; omega) (by omega) (fun x hx e => by have := HO.out x hx _ e; omega) (Nat.le_refl _)).congr (L' := f) (fun x hx => if_pos hx)
      have BN : Below w.heap.size w (set6 (wr.setCell ⟨w.heap.size, 4, none⟩ (.slice (some ⟨w.heap.size + 1 + 1, 0, none⟩) m m)) (w.heap.size + 1) (.int .i64 s) (.int .i64 y) (.int .i64 l) (.int .i64 p) (.slice (some ⟨w.heap.size + 1 + 1, 0, none⟩) m m) (.int .i64 c)) := HB.out.trans ⟨O2.os.trans O1.os, O2.tape.trans O1.tape, O2.output.trans O1.output, Nat.le_trans O1.size O2.size, fun b hb => (O2.block b (by have := O1.size; omega) (by omega)).trans (O1.block b (by omega) (by omega))⟩
      clear HA HZ HB HK HO O1 O2 K1 K2 N1 f4 C1 qa0 qa1 qa2 qa3 qa4 qa5 qz0 qz1 qz2 qz3 qz4 qz5 fz HR HF HCA HCB HB0 HK0
      show bodyPost _ _ _ _ _ (set6 (wr.setCell ⟨w.heap.size, 4, none⟩ (.slice (some ⟨w.heap.size + 1 + 1, 0, none⟩) m m)) (w.heap.size + 1) (.int .i64 s) (.int .i64 y) (.int .i64 l) (.int .i64 p) (.slice (some ⟨w.heap.size + 1 + 1, 0, none⟩) m m) (.int .i64 c))
      generalize set6 (wr.setCell ⟨w.heap.size, 4, none⟩ (.slice (some ⟨w.heap.size + 1 + 1, 0, none⟩) m m)) (w.heap.size + 1) (.int .i64 s) (.int .i64 y) (.int .i64 l) (.int .i64 p) (.slice (some ⟨w.heap.size + 1 + 1, 0, none⟩) m m) (.int .i64 c) = V at FN BN K3 ⊢
      have r0 := FN.c0
      have r1 := FN.c1
      have r2 := FN.c2
      have r3 := FN.c3
      have r4 := FN.c4
      have r5 := FN.c5
      exact bodyPost_ret (v := .agg #[.int .i64 s, .int .i64 y, .int .i64 l, .int .i64 p, (.slice (some ⟨w.heap.size + 1 + 1, 0, none⟩) m m), .int .i64 c]) (by simp [results, Try.results63, go_sem, r0, r1, r2, r3, r4, r5]) rfl (by first | exact ⟨U, rfl, K3, BN⟩ | exact ⟨rfl, ⟨U, K3⟩, BN⟩)
end Go.Proofs.Ytfhpjcojccfcoaa
