/- The model's l12Unread: what is unread is taken out again and again. -/
import Derived.Test.YtlfgboiejoiboaaDoorUni
import Derived.Test.YtlfgboiejoiboaaDoorRdt
import Derived.Test.YtlfgboiejoiboaaDoorEnc
namespace Go.Proofs.YtlfgboiejoiboaaDoor
open Go.ChangeShapes Go.WideShapes Go.ChangeAt Go.RowKit
set_option linter.unusedVariables false
theorem fN_16 (o : Int) (h : 1 ≤ o ∧ o ≤ 13) : (Go.bits .and .i64 (fN o) 16 == 0) = !nmd o 0 := by
  rcases op_in o h with rfl | rfl | rfl | rfl | rfl | rfl | rfl | rfl | rfl | rfl | rfl | rfl | rfl <;> decide +kernel
set_option maxRecDepth 100000 in
set_option maxHeartbeats 2000000 in
theorem writes63 (o d a b c x : Int) (w : World) (h : 1 ≤ o ∧ o ≤ 13) : Calls Tryd.prog 54 #[.agg #[.int .i64 o, .int .i64 d, .int .i64 a, .int .i64 b, .int .i64 c, .int .u32 x]] w fun e w' => e = .returned (.int .i64 (if nmd o 0 then d else -1)) ∧ Below w.heap.size w w' := by
  have h47 := fun v => fields47 o v h
  have hb := fN_16 o h
  clear h
  generalize fN o = F at h47 hb
  cases hn : nmd o 0
  all_goals
    rw [hn] at hb
    simp only [Bool.not_true, Bool.not_false] at hb
    clear hn
    go_enter Tryd.func54, Tryd.ntmps54
    go_wp2_with (go_at_call 66; refine (h47 _).mono ?_; rintro e w1 ⟨rfl, hw⟩; subst w1)
    go_ret
    exact ⟨rfl, (Below.refl _ _).alloc (Nat.le_refl _) _⟩
/-- Whether one of the first k is taken out. -/
def anyB (Z : Nat → Bool) : Nat → Bool
  | 0 => false
  | k + 1 => anyB Z k || Z k
theorem anyB_none {Z : Nat → Bool} : ∀ {n : Nat}, anyB Z n = false → ∀ i, i < n → Z i = false
  | 0, _, i, hi => by omega
  | n + 1, h, i, hi => by
    rw [anyB, Bool.or_eq_false_iff] at h
    by_cases e : i = n
    · subst e; exact h.2
    · exact anyB_none h.1 i (by omega)
set_option maxRecDepth 100000 in
set_option maxHeartbeats 16000000 in
theorem unread37 (n a cap : Nat) (c0 : Cd) (K : Ok c0) (w : World) (hn : c0.n = n) (R : RowC w a c0) : Calls Tryd.prog 37 #[.slice (some ⟨a, 0, none⟩) n cap] w fun e w' => ∃ g cp, e = .returned (.slice (some ⟨g, 0, none⟩) (usN n c0).n cp) ∧ RowC w' g (usN n c0) ∧ Below w.heap.size w w' := by
  obtain ⟨i4, hi4, hz40, hz41, hz42⟩ := info_parts info4
  have HR : Hid (RowC w a c0) := R
  have HK : Hid (Ok c0) := K
  have HN : Hid (c0.n = n) := hn
  obtain ⟨FIN, hF⟩ : ∃ F, usN n c0 = F := ⟨_, rfl⟩
  have HFin : Hid (usN n c0 = FIN) := hF
  rw [hF]
  clear R K hF hn
  go_enter Tryd.func37, Tryd.ntmps37
  go_wp2
  go_loopg [0] n (fun gk vv wr => ∃ (c : Cd) (g cp f : Nat), gk = c.n ∧ vv = .slice (some ⟨g, 0, none⟩) gk cp ∧ Hid (Ok c) ∧ Hid (RowC wr g c) ∧ Hid (c.n ≤ f ∧ usN f c = FIN) ∧ Hid (Below w.heap.size w wr))
  case atStart => exact ⟨c0, a, cap, n, HN.out.symm, rfl, HK, HR, ⟨by rw [HN.out]; exact Nat.le_refl _, HFin.out⟩, Below.refl _ _⟩
  case round =>
    obtain ⟨c, g, cp, f, hgk, rfl, K, R, Fu, HB⟩ := hrel
    subst hgk
    clear HR HK HN HFin
    obtain ⟨V, rfl⟩ : ∃ V, V = wr := ⟨_, rfl⟩
    obtain ⟨m, hm⟩ : ∃ m, c.n = m := ⟨_, rfl⟩
    have HM : Hid (c.n = m) := hm
    have m0 : 1 ≤ m := by rw [← hm]; exact K.out.n0
    have m1 : m ≤ 600 := by rw [← hm]; exact K.out.n1
    have HRm : Hid (RowI V g m c.O c.D c.A c.B c.C c.X) := by have := R.out; unfold RowC at this; rw [hm] at this; exact this
    rw [hm]
    clear hm
    go_wp2_with (at_make; refine wpList_make_full _ rfl _ _ 24 rfl V.heap.size 4 i4 (.bool false) 1 Tryd.underlying24 hi4 hz40 hz41 .i64 .i64 _ _ 400 rfl rfl rfl rfl ?_ ?_ ?_ ?_)
    · rw [hz42]; omega
    · unfold maxLen; omega
    · exact Nat.le_refl _
    intro w1 hown hgrow
    have S0 : Hid (Own w1 V.heap.size 400 (fun i => .bool (memB (c.rdL 0) i))) := (own_made (by rw [Nat.mul_one]; exact hown) : Own w1 V.heap.size 400 (fun i => .bool false)).mono (Nat.le_refl _) (fun i hi => by simp [Cd.rdL, Cd.rdLs, memB])
    have B1 : Hid (Below V.heap.size V w1) := ⟨hgrow.os, hgrow.tape, hgrow.output, hgrow.size, fun k hk => hgrow.block k hk (by simp)⟩
    clear hown hgrow
    go_wp2
    go_loopw [17] (fun i wx => ∃ k : Nat, k ≤ m ∧ i = .int .i64 k ∧ Hid (Own wx V.heap.size 400 (fun i => .bool (memB (c.rdL k) i))) ∧ Hid (Below V.heap.size V wx)) (fun i _ => m - (intOf i).toNat)
    case atStart => exact ⟨0, by omega, rfl, S0, B1⟩
    case round =>
      obtain ⟨k, hk, rfl, HS, HB2⟩ := hrel
      clear S0 B1
      by_cases hkm : k < m
      · have i1 : (k : Int) < (m : Int) := by omega
        have i0 : (0 : Int) ≤ (k : Int) := by omega
        have hkc : k < c.n := by rw [HM.out]; exact hkm
        have RK := HRm.out.next HB2.out
        have c0' := RK.c0 k hkm
        have c1 := RK.c1 k hkm
        have c2 := RK.c2 k hkm
        have c3 := RK.c3 k hkm
        have c4 := RK.c4 k hkm
        have c5 := RK.c5 k hkm
        have BA : Hid (Below wr.heap.size wr (wr.alloc (.cells #[.int .i64 (c.O k), .int .i64 (c.D k), .int .i64 (c.A k), .int .i64 (c.B k), .int .i64 (c.C k), .int .u32 (c.X k)] 40))) := (Below.refl _ _).alloc (Nat.le_refl _) _
        have h53 := reads39 (c.O k) (c.D k) (c.A k) (c.B k) (c.C k) (c.X k) (wr.alloc (.cells #[.int .i64 (c.O k), .int .i64 (c.D k), .int .i64 (c.A k), .int .i64 (c.B k), .int .i64 (c.C k), .int .u32 (c.X k)] 40)) (K.out.wd k hkc).1 (K.out.wd k hkc).2 (K.out.op k hkc) (K.out.call k hkc)
        have HSu : Hid (∀ i, memB (c.rdL (k + 1)) i = memB (c.rdL k ++ srt (opsL (c.O k) (c.A k) (c.B k) (c.C k) (c.X k))) i) := fun i => by
          rw [c.rdL_succ]
          unfold memB
          congr 1
          apply propext
          rw [List.mem_append, List.mem_append, srt_mem]
        have HRg : Hid (∀ y, y ∈ srt (opsL (c.O k) (c.A k) (c.B k) (c.C k) (c.X k)) → 0 ≤ y ∧ y < 400) := fun y hy => K.out.regs k hkc y ((srt_mem y _).1 hy)
        have HLn : Hid ((srt (opsL (c.O k) (c.A k) (c.B k) (c.C k) (c.X k))).length ≤ 3) := by have := srt_len (opsL (c.O k) (c.A k) (c.B k) (c.C k) (c.X k)); have := opsL_len (c.O k) (c.A k) (c.B k) (c.C k) (c.X k); show _ ≤ _; omega
        generalize srt (opsL (c.O k) (c.A k) (c.B k) (c.C k) (c.X k)) = L at h53 HSu HRg HLn
        clear RK hkc
        go_wp2_with (go_at_call 53; refine h53.mono ?_; rintro e w2 ⟨v2, rfl, I2, B2⟩; obtain ⟨ad2, cp2, rfl⟩ := I2.own.row.is)
        have HB3 : Hid (Below wr.heap.size wr w2) := BA.out.trans (B2.mono BA.out.size)
        have HS3 : Hid (Own w2 V.heap.size 400 (fun i => .bool (memB (c.rdL k ++ L.take 0) i))) := (HS.out.next HB3.out).mono (Nat.le_refl _) (fun i hi => by simp)
        have HBV : Hid (Below V.heap.size V w2) := HB2.out.trans (HB3.out.mono HB2.out.size)
        have HI3 : Hid (IOwn wr.heap.size w2 (.slice ad2 L.length cp2) L) := by
          rcases I2.own with h | ⟨b, cc, hv, h1, h2, h3⟩
          · exact Or.inl h
          · exact Or.inr ⟨b, cc, hv, h1, by simp at h2; omega, h3⟩
        obtain ⟨l, hl⟩ : ∃ l, L.length = l := ⟨_, rfl⟩
        have Hl : Hid (L.length = l) := hl
        rw [hl] at HLn ⊢
        have hl3 := HLn.out
        obtain ⟨U, rfl⟩ : ∃ U, U = wr := ⟨_, rfl⟩
        have LU : Hid (V.heap.size < U.heap.size) := HS.out.hi
        clear h53 I2 B2 BA HS HB2 HB3 hl
        go_loopw [24] (fun i wx => ∃ j : Nat, j ≤ l ∧ i = .int .i64 j ∧ Hid (Own wx V.heap.size 400 (fun i => .bool (memB (c.rdL k ++ L.take j) i))) ∧ Hid (Below V.heap.size V wx) ∧ Hid (Only V.heap.size w2 wx)) (fun i _ => l - (intOf i).toNat)
        case atStart => exact ⟨0, by omega, rfl, HS3, HBV, Only.refl _ _⟩
        case round =>
          obtain ⟨j, hj, rfl, SJ, BJ, KJ⟩ := hrel
          clear HS3 HBV
          by_cases hjl : j < l
          · have j1 : (j : Int) < (l : Int) := by omega
            have j0 : (0 : Int) ≤ (j : Int) := by omega
            have hjL : j < L.length := by rw [Hl.out]; exact hjl
            rcases HI3.out with ⟨h0, _⟩ | ⟨b, cc, hv, h1, h2, h3⟩
            · rw [h0] at hjL; simp at hjL
            injection hv with hv1 hv2 hv3
            subst hv1 hv3
            have cj := only_cell KJ.out (h3.cell j hjL) (by have := LU.out; omega)
            have HT : Hid (L.take (j + 1) = L.take j ++ [L.getD j 0]) := by show _ = _; rw [List.take_add_one]; simp [List.getD, hjL]
            obtain ⟨t0, t1⟩ := HRg.out (L.getD j 0) (by simp [List.getD, hjL])
            generalize L.getD j 0 = t at cj HT t0 t1
            have SJ2 : Hid (Own (wr.setCell ⟨V.heap.size, t.toNat, none⟩ (.bool true)) V.heap.size 400 (fun i => .bool (memB (c.rdL k ++ L.take (j + 1)) i))) := SJ.out.set t.toNat _ (by omega) (fun i hi => by
              rw [HT.out, ← List.append_assoc, memB_snoc _ t t0 i]
              by_cases e : i = t.toNat
              · rw [if_pos e, if_pos e]
              · rw [if_neg e, if_neg e])
            have BJ2 : Hid (Below V.heap.size V (wr.setCell ⟨V.heap.size, t.toNat, none⟩ (.bool true))) := BJ.out.setCell (p := ⟨V.heap.size, t.toNat, none⟩) (Nat.le_refl _) _
            have KJ2 : Hid (Only V.heap.size w2 (wr.setCell ⟨V.heap.size, t.toNat, none⟩ (.bool true))) := KJ.out.setCell _ _
            have ft := SJ.out.free t.toNat
            obtain ⟨b0, hb0⟩ : ∃ b0, wr.cell? ⟨V.heap.size, t.toNat, none⟩ = some (.bool b0) := ⟨_, SJ.out.cell t.toNat (by omega)⟩
            clear SJ BJ KJ HT h1 h3 hjL
            go_wp2
            go_roundw
            case rel => exact ⟨j + 1, by omega, by go_num, SJ2, BJ2, KJ2⟩
            case measure => simp [intOf]; omega
          · obtain rfl : j = l := by omega
            have j1 : ¬ (j : Int) < (j : Int) := by omega
            have S4 : Hid (Own wr V.heap.size 400 (fun i => .bool (memB (c.rdL (k + 1)) i))) := SJ.out.mono (Nat.le_refl _) (fun i hi => by
              show Value.bool _ = Value.bool _
              rw [HSu.out, List.take_of_length_le (by rw [Hl.out]; exact Nat.le_refl _)])
            clear SJ KJ HI3
            go_wp2
            go_roundw
            case rel => exact ⟨k + 1, by omega, by go_num, S4, BJ⟩
            case measure => simp [intOf]; omega
      · obtain rfl : k = m := by omega
        have i1 : ¬ (k : Int) < (k : Int) := by omega
        have HSn : Hid (Own wr V.heap.size 400 (fun i => .bool (memB (c.rdL c.n) i))) := by rw [HM.out]; exact HS
        obtain ⟨U, rfl⟩ : ∃ U, U = wr := ⟨_, rfl⟩
        have LU : Hid (V.heap.size < U.heap.size) := HS.out.hi
        clear HS
        go_wp2_with (at_make; refine wpList_make_full _ rfl _ _ 24 rfl U.heap.size 4 i4 (.bool false) 1 Tryd.underlying24 hi4 hz40 hz41 .i64 .i64 _ _ k rfl rfl rfl rfl ?_ ?_ ?_ ?_)
        · omega
        · unfold maxLen; omega
        intro w2 hown hgrow
        have B2 : Below U.heap.size U w2 := ⟨hgrow.os, hgrow.tape, hgrow.output, hgrow.size, fun k hk => hgrow.block k hk (by simp)⟩
        have O2 : Hid (Own w2 U.heap.size k (fun i => .bool (if i < 0 then c.un i else false))) := (own_made (by rw [Nat.mul_one]; exact hown) : Own w2 U.heap.size k (fun i => .bool false)).mono (Nat.le_refl _) (fun i hi => by rw [if_neg (by omega)])
        have HS2 : Hid (Own w2 V.heap.size 400 (fun i => .bool (memB (c.rdL c.n) i))) := HSn.out.next B2
        have HBv : Hid (Below V.heap.size V w2) := HB2.out.trans (B2.mono HB2.out.size)
        have HA0 : Hid (anyB c.un 0 = false) := rfl
        clear hown hgrow B2 HSn HB2
        go_wp2
        go_loopw [9, 38] (fun v9 i wx => ∃ j : Nat, j ≤ k ∧ v9 = .bool (anyB c.un j) ∧ i = .int .i64 j ∧ Hid (Own wx U.heap.size k (fun i => .bool (if i < j then c.un i else false))) ∧ Hid (Own wx V.heap.size 400 (fun i => .bool (memB (c.rdL c.n) i))) ∧ Hid (Below V.heap.size V wx)) (fun _ i _ => k - (intOf i).toNat)
        case atStart => exact ⟨0, by omega, rfl, rfl, O2, HS2, HBv⟩
        case round =>
          obtain ⟨j, hj, rfl, rfl, OJ, SJ, BJ⟩ := hrel
          clear O2 HS2 HBv HA0
          by_cases hjk : j < k
          · have j1 : (j : Int) < (k : Int) := by omega
            have j0 : (0 : Int) ≤ (j : Int) := by omega
            have hjc : j < c.n := by rw [HM.out]; exact hjk
            have RK := HRm.out.next BJ.out
            have c0' := RK.c0 j hjk
            have c1 := RK.c1 j hjk
            have c2 := RK.c2 j hjk
            have c3 := RK.c3 j hjk
            have c4 := RK.c4 j hjk
            have c5 := RK.c5 j hjk
            have BA : Hid (Below wr.heap.size wr (wr.alloc (.cells #[.int .i64 (c.O j), .int .i64 (c.D j), .int .i64 (c.A j), .int .i64 (c.B j), .int .i64 (c.C j), .int .u32 (c.X j)] 40))) := (Below.refl _ _).alloc (Nat.le_refl _) _
            have h54 := writes63 (c.O j) (c.D j) (c.A j) (c.B j) (c.C j) (c.X j) (wr.alloc (.cells #[.int .i64 (c.O j), .int .i64 (c.D j), .int .i64 (c.A j), .int .i64 (c.B j), .int .i64 (c.C j), .int .u32 (c.X j)] 40)) (K.out.op j hjc)
            have HD0 : Hid ((wr.alloc (.cells #[.int .i64 (c.O j), .int .i64 (c.D j), .int .i64 (c.A j), .int .i64 (c.B j), .int .i64 (c.C j), .int .u32 (c.X j)] 40)).cell? ⟨wr.heap.size, 0, none⟩ = some (.int .i64 (c.O j)) ∧ (wr.alloc (.cells #[.int .i64 (c.O j), .int .i64 (c.D j), .int .i64 (c.A j), .int .i64 (c.B j), .int .i64 (c.C j), .int .u32 (c.X j)] 40)).cell? ⟨wr.heap.size, 1, none⟩ = some (.int .i64 (c.D j)) ∧ (wr.alloc (.cells #[.int .i64 (c.O j), .int .i64 (c.D j), .int .i64 (c.A j), .int .i64 (c.B j), .int .i64 (c.C j), .int .u32 (c.X j)] 40)).cell? ⟨wr.heap.size, 2, none⟩ = some (.int .i64 (c.A j))) := by show _ ∧ _ ∧ _; simp
            obtain ⟨d0, d1⟩ := K.out.d j hjc
            have d4 : (c.D j) < ((400 : Nat) : Int) := by omega
            have HAn : Hid (anyB c.un (j + 1) = (anyB c.un j || c.un j)) := rfl
            have HUn : Hid (c.un j = ((nmd (c.O j) 0 && !memB (c.rdL c.n) (c.D j).toNat) || (c.O j == 2 && c.D j == c.A j))) := rfl
            have HNx : Hid (∀ (v : World), Own v U.heap.size k (fun i => .bool (if i < j then c.un i else false)) → Own (v.setCell ⟨U.heap.size, j, none⟩ (.bool (c.un j))) U.heap.size k (fun i => .bool (if i < j + 1 then c.un i else false))) := fun v o => o.set j _ hjk (fun i hi => by
              by_cases e : i = j
              · subst e; rw [if_pos rfl, if_pos (by omega)]
              · rw [if_neg e]
                by_cases e2 : i < j
                · rw [if_pos e2, if_pos (by omega)]
                · rw [if_neg e2, if_neg (by omega)])
            have LW : Hid (U.heap.size < wr.heap.size) := OJ.out.hi
            clear RK hjc
            generalize anyB c.un j = any0 at HAn ⊢
            generalize c.un j = uj at HAn HUn HNx
            cases hn : nmd (c.O j) 0
            · rw [hn] at h54 HUn
              cases h2 : (c.O j == 2)
              · rw [h2] at HUn
                obtain rfl : uj = false := HUn.out
                cases any0
                all_goals
                  go_wp2_with (go_at_call 54; refine h54.mono ?_; rintro e w3 ⟨rfl, B3⟩; have O3 := (OJ.out.next BA.out).next B3; have S3 := (SJ.out.next BA.out).next B3; have y0 := cell_nx HD0.out.1 B3; have y1 := cell_nx HD0.out.2.1 B3; have y2 := cell_nx HD0.out.2.2 B3; have oj := O3.cell j hjk; have fj := O3.free j;  have HN3 : Hid (Own (w3.setCell ⟨U.heap.size, j, none⟩ (.bool false)) U.heap.size k (fun i => .bool (if i < j + 1 then c.un i else false))) := HNx.out w3 O3; have HS3 : Hid (Own (w3.setCell ⟨U.heap.size, j, none⟩ (.bool false)) V.heap.size 400 (fun i => .bool (memB (c.rdL c.n) i))) := S3.but ((Only.refl _ _).setCell _ _) (by have := LU.out; omega); have HB3 : Hid (Below V.heap.size V (w3.setCell ⟨U.heap.size, j, none⟩ (.bool false))) := ((BJ.out.trans (BA.out.mono BJ.out.size)).trans (B3.mono (by have := BJ.out.size; have := BA.out.size; omega))).setCell (p := ⟨U.heap.size, j, none⟩) (by have := LU.out; show V.heap.size ≤ U.heap.size; omega) _; have oj2 : (w3.setCell ⟨U.heap.size, j, none⟩ (.bool false)).cell? ⟨U.heap.size, j, none⟩ = some (.bool false) := World.cell?_setCell_same' w3 _ _ (by rw [oj]; rfl); clear O3 S3 B3)
                  go_roundw
                  case rel => exact ⟨j + 1, by omega, by rw [HAn.out]; rfl, by go_num, HN3, HS3, HB3⟩
                  case measure => simp [intOf]; omega
              · rw [h2] at HUn
                cases h3 : (c.D j == c.A j)
                · rw [h3] at HUn
                  obtain rfl : uj = false := HUn.out
                  cases any0
                  all_goals
                    go_wp2_with (go_at_call 54; refine h54.mono ?_; rintro e w3 ⟨rfl, B3⟩; have O3 := (OJ.out.next BA.out).next B3; have S3 := (SJ.out.next BA.out).next B3; have y0 := cell_nx HD0.out.1 B3; have y1 := cell_nx HD0.out.2.1 B3; have y2 := cell_nx HD0.out.2.2 B3; have oj := O3.cell j hjk; have fj := O3.free j;  have HN3 : Hid (Own (w3.setCell ⟨U.heap.size, j, none⟩ (.bool false)) U.heap.size k (fun i => .bool (if i < j + 1 then c.un i else false))) := HNx.out w3 O3; have HS3 : Hid (Own (w3.setCell ⟨U.heap.size, j, none⟩ (.bool false)) V.heap.size 400 (fun i => .bool (memB (c.rdL c.n) i))) := S3.but ((Only.refl _ _).setCell _ _) (by have := LU.out; omega); have HB3 : Hid (Below V.heap.size V (w3.setCell ⟨U.heap.size, j, none⟩ (.bool false))) := ((BJ.out.trans (BA.out.mono BJ.out.size)).trans (B3.mono (by have := BJ.out.size; have := BA.out.size; omega))).setCell (p := ⟨U.heap.size, j, none⟩) (by have := LU.out; show V.heap.size ≤ U.heap.size; omega) _; have oj2 : (w3.setCell ⟨U.heap.size, j, none⟩ (.bool false)).cell? ⟨U.heap.size, j, none⟩ = some (.bool false) := World.cell?_setCell_same' w3 _ _ (by rw [oj]; rfl); clear O3 S3 B3)
                    go_roundw
                    case rel => exact ⟨j + 1, by omega, by rw [HAn.out]; rfl, by go_num, HN3, HS3, HB3⟩
                    case measure => simp [intOf]; omega
                · rw [h3] at HUn
                  obtain rfl : uj = true := HUn.out
                  cases any0
                  all_goals
                    go_wp2_with (go_at_call 54; refine h54.mono ?_; rintro e w3 ⟨rfl, B3⟩; have O3 := (OJ.out.next BA.out).next B3; have S3 := (SJ.out.next BA.out).next B3; have y0 := cell_nx HD0.out.1 B3; have y1 := cell_nx HD0.out.2.1 B3; have y2 := cell_nx HD0.out.2.2 B3; have oj := O3.cell j hjk; have fj := O3.free j;  have HN3 : Hid (Own (w3.setCell ⟨U.heap.size, j, none⟩ (.bool true)) U.heap.size k (fun i => .bool (if i < j + 1 then c.un i else false))) := HNx.out w3 O3; have HS3 : Hid (Own (w3.setCell ⟨U.heap.size, j, none⟩ (.bool true)) V.heap.size 400 (fun i => .bool (memB (c.rdL c.n) i))) := S3.but ((Only.refl _ _).setCell _ _) (by have := LU.out; omega); have HB3 : Hid (Below V.heap.size V (w3.setCell ⟨U.heap.size, j, none⟩ (.bool true))) := ((BJ.out.trans (BA.out.mono BJ.out.size)).trans (B3.mono (by have := BJ.out.size; have := BA.out.size; omega))).setCell (p := ⟨U.heap.size, j, none⟩) (by have := LU.out; show V.heap.size ≤ U.heap.size; omega) _; have oj2 : (w3.setCell ⟨U.heap.size, j, none⟩ (.bool true)).cell? ⟨U.heap.size, j, none⟩ = some (.bool true) := World.cell?_setCell_same' w3 _ _ (by rw [oj]; rfl); clear O3 S3 B3)
                    go_roundw
                    case rel => exact ⟨j + 1, by omega, by rw [HAn.out]; rfl, by go_num, HN3, HS3, HB3⟩
                    case measure => simp [intOf]; omega
            · rw [hn] at h54 HUn
              obtain ⟨rb, hrb⟩ : ∃ rb, memB (c.rdL c.n) (c.D j).toNat = rb := ⟨_, rfl⟩
              have HRb : Hid (memB (c.rdL c.n) (c.D j).toNat = rb) := hrb
              rw [hrb] at HUn
              clear hrb
              cases rb
              · obtain rfl : uj = true := by rw [HUn.out]; rfl
                cases any0
                all_goals
                  go_wp2_with (go_at_call 54; refine h54.mono ?_; rintro e w3 ⟨rfl, B3⟩; have O3 := (OJ.out.next BA.out).next B3; have S3 := (SJ.out.next BA.out).next B3; have y0 := cell_nx HD0.out.1 B3; have y1 := cell_nx HD0.out.2.1 B3; have y2 := cell_nx HD0.out.2.2 B3; have oj := O3.cell j hjk; have fj := O3.free j; have rd := S3.cell (c.D j).toNat (by omega); rw [HRb.out] at rd; have HN3 : Hid (Own (w3.setCell ⟨U.heap.size, j, none⟩ (.bool true)) U.heap.size k (fun i => .bool (if i < j + 1 then c.un i else false))) := HNx.out w3 O3; have HS3 : Hid (Own (w3.setCell ⟨U.heap.size, j, none⟩ (.bool true)) V.heap.size 400 (fun i => .bool (memB (c.rdL c.n) i))) := S3.but ((Only.refl _ _).setCell _ _) (by have := LU.out; omega); have HB3 : Hid (Below V.heap.size V (w3.setCell ⟨U.heap.size, j, none⟩ (.bool true))) := ((BJ.out.trans (BA.out.mono BJ.out.size)).trans (B3.mono (by have := BJ.out.size; have := BA.out.size; omega))).setCell (p := ⟨U.heap.size, j, none⟩) (by have := LU.out; show V.heap.size ≤ U.heap.size; omega) _; have oj2 : (w3.setCell ⟨U.heap.size, j, none⟩ (.bool true)).cell? ⟨U.heap.size, j, none⟩ = some (.bool true) := World.cell?_setCell_same' w3 _ _ (by rw [oj]; rfl); clear O3 S3 B3)
                  go_roundw
                  case rel => exact ⟨j + 1, by omega, by rw [HAn.out]; rfl, by go_num, HN3, HS3, HB3⟩
                  case measure => simp [intOf]; omega
              · cases h2 : (c.O j == 2)
                · rw [h2] at HUn
                  obtain rfl : uj = false := HUn.out
                  cases any0
                  all_goals
                    go_wp2_with (go_at_call 54; refine h54.mono ?_; rintro e w3 ⟨rfl, B3⟩; have O3 := (OJ.out.next BA.out).next B3; have S3 := (SJ.out.next BA.out).next B3; have y0 := cell_nx HD0.out.1 B3; have y1 := cell_nx HD0.out.2.1 B3; have y2 := cell_nx HD0.out.2.2 B3; have oj := O3.cell j hjk; have fj := O3.free j; have rd := S3.cell (c.D j).toNat (by omega); rw [HRb.out] at rd; have HN3 : Hid (Own (w3.setCell ⟨U.heap.size, j, none⟩ (.bool false)) U.heap.size k (fun i => .bool (if i < j + 1 then c.un i else false))) := HNx.out w3 O3; have HS3 : Hid (Own (w3.setCell ⟨U.heap.size, j, none⟩ (.bool false)) V.heap.size 400 (fun i => .bool (memB (c.rdL c.n) i))) := S3.but ((Only.refl _ _).setCell _ _) (by have := LU.out; omega); have HB3 : Hid (Below V.heap.size V (w3.setCell ⟨U.heap.size, j, none⟩ (.bool false))) := ((BJ.out.trans (BA.out.mono BJ.out.size)).trans (B3.mono (by have := BJ.out.size; have := BA.out.size; omega))).setCell (p := ⟨U.heap.size, j, none⟩) (by have := LU.out; show V.heap.size ≤ U.heap.size; omega) _; have oj2 : (w3.setCell ⟨U.heap.size, j, none⟩ (.bool false)).cell? ⟨U.heap.size, j, none⟩ = some (.bool false) := World.cell?_setCell_same' w3 _ _ (by rw [oj]; rfl); clear O3 S3 B3)
                    go_roundw
                    case rel => exact ⟨j + 1, by omega, by rw [HAn.out]; rfl, by go_num, HN3, HS3, HB3⟩
                    case measure => simp [intOf]; omega
                · rw [h2] at HUn
                  cases h3 : (c.D j == c.A j)
                  · rw [h3] at HUn
                    obtain rfl : uj = false := HUn.out
                    cases any0
                    all_goals
                      go_wp2_with (go_at_call 54; refine h54.mono ?_; rintro e w3 ⟨rfl, B3⟩; have O3 := (OJ.out.next BA.out).next B3; have S3 := (SJ.out.next BA.out).next B3; have y0 := cell_nx HD0.out.1 B3; have y1 := cell_nx HD0.out.2.1 B3; have y2 := cell_nx HD0.out.2.2 B3; have oj := O3.cell j hjk; have fj := O3.free j; have rd := S3.cell (c.D j).toNat (by omega); rw [HRb.out] at rd; have HN3 : Hid (Own (w3.setCell ⟨U.heap.size, j, none⟩ (.bool false)) U.heap.size k (fun i => .bool (if i < j + 1 then c.un i else false))) := HNx.out w3 O3; have HS3 : Hid (Own (w3.setCell ⟨U.heap.size, j, none⟩ (.bool false)) V.heap.size 400 (fun i => .bool (memB (c.rdL c.n) i))) := S3.but ((Only.refl _ _).setCell _ _) (by have := LU.out; omega); have HB3 : Hid (Below V.heap.size V (w3.setCell ⟨U.heap.size, j, none⟩ (.bool false))) := ((BJ.out.trans (BA.out.mono BJ.out.size)).trans (B3.mono (by have := BJ.out.size; have := BA.out.size; omega))).setCell (p := ⟨U.heap.size, j, none⟩) (by have := LU.out; show V.heap.size ≤ U.heap.size; omega) _; have oj2 : (w3.setCell ⟨U.heap.size, j, none⟩ (.bool false)).cell? ⟨U.heap.size, j, none⟩ = some (.bool false) := World.cell?_setCell_same' w3 _ _ (by rw [oj]; rfl); clear O3 S3 B3)
                      go_roundw
                      case rel => exact ⟨j + 1, by omega, by rw [HAn.out]; rfl, by go_num, HN3, HS3, HB3⟩
                      case measure => simp [intOf]; omega
                  · rw [h3] at HUn
                    obtain rfl : uj = true := HUn.out
                    cases any0
                    all_goals
                      go_wp2_with (go_at_call 54; refine h54.mono ?_; rintro e w3 ⟨rfl, B3⟩; have O3 := (OJ.out.next BA.out).next B3; have S3 := (SJ.out.next BA.out).next B3; have y0 := cell_nx HD0.out.1 B3; have y1 := cell_nx HD0.out.2.1 B3; have y2 := cell_nx HD0.out.2.2 B3; have oj := O3.cell j hjk; have fj := O3.free j; have rd := S3.cell (c.D j).toNat (by omega); rw [HRb.out] at rd; have HN3 : Hid (Own (w3.setCell ⟨U.heap.size, j, none⟩ (.bool true)) U.heap.size k (fun i => .bool (if i < j + 1 then c.un i else false))) := HNx.out w3 O3; have HS3 : Hid (Own (w3.setCell ⟨U.heap.size, j, none⟩ (.bool true)) V.heap.size 400 (fun i => .bool (memB (c.rdL c.n) i))) := S3.but ((Only.refl _ _).setCell _ _) (by have := LU.out; omega); have HB3 : Hid (Below V.heap.size V (w3.setCell ⟨U.heap.size, j, none⟩ (.bool true))) := ((BJ.out.trans (BA.out.mono BJ.out.size)).trans (B3.mono (by have := BJ.out.size; have := BA.out.size; omega))).setCell (p := ⟨U.heap.size, j, none⟩) (by have := LU.out; show V.heap.size ≤ U.heap.size; omega) _; have oj2 : (w3.setCell ⟨U.heap.size, j, none⟩ (.bool true)).cell? ⟨U.heap.size, j, none⟩ = some (.bool true) := World.cell?_setCell_same' w3 _ _ (by rw [oj]; rfl); clear O3 S3 B3)
                      go_roundw
                      case rel => exact ⟨j + 1, by omega, by rw [HAn.out]; rfl, by go_num, HN3, HS3, HB3⟩
                      case measure => simp [intOf]; omega
          · obtain rfl : j = k := by omega
            have j1 : ¬ (j : Int) < (j : Int) := by omega
            have OZ : Hid (Own wr U.heap.size j (fun i => .bool (c.un i))) := OJ.out.mono (Nat.le_refl _) (fun i hi => by rw [if_pos hi])
            have HRw : Hid (RowI wr g j c.O c.D c.A c.B c.C c.X) := HRm.out.next BJ.out
            have HBw : Hid (Below w.heap.size w wr) := HB.out.trans (BJ.out.mono HB.out.size)
            have HTg : Hid (Tgs c.O c.A c.B c.C j) := by have := K.out.tgs; rw [HM.out] at this; exact this
            have h50 := take48 j g cp U.heap.size j c.O c.D c.A c.B c.C c.X c.un wr HRw.out OZ.out.cell OZ.out.hi m1 HTg.out
            have HTk : Hid (c.tk.n = tkN c.O c.un j) := by show tkN c.O c.un c.n = _; rw [HM.out]
            have HAll : Hid (anyB c.un j = false → c.tk.n = j) := fun h => by rw [HTk.out]; exact tkN_none (anyB_none h)
            have HEnd : Hid (c.tk.n = j → FIN.n = j ∧ ∀ v q, RowI v q j c.O c.D c.A c.B c.C c.X → RowC v q FIN) := fun h => by
              have e : usN f c = c := usN_end (by rw [h, HM.out])
              have e2 : FIN = c := by rw [← Fu.out.2, e]
              subst e2
              exact ⟨HM.out, fun v q r => by unfold RowC; rw [HM.out]; exact r⟩
            clear OJ SJ OZ BJ
            cases ha : anyB c.un j
            · obtain ⟨e1, e2⟩ := HEnd.out (HAll.out ha)
              have HQ : Hid (FIN.n = j ∧ RowC wr g FIN) := ⟨e1, e2 _ _ HRw.out⟩
              clear HEnd HAll h50 ha e1 e2
              go_wp2
              go_ret
              first | exact ⟨g, cp, by rw [HQ.out.1]; rfl, HQ.out.2, HBw.out⟩ | exact ⟨g, ⟨cp, by rw [HQ.out.1]; rfl⟩, HQ.out.2, HBw.out⟩
            · by_cases e : c.tk.n = j
              · obtain ⟨e1, e2⟩ := HEnd.out e
                have HQ : Hid (FIN.n = j ∧ RowC wr g FIN) := ⟨e1, e2 _ _ HRw.out⟩
                have hl : tkN c.O c.un j = j := by rw [← HTk.out]; exact e
                have H50 : Hid (Calls Tryd.prog 50 #[.slice (some ⟨g, 0, none⟩) j cp, .slice (some ⟨U.heap.size, 0, none⟩) j j] wr fun e w' => ∃ q cq, e = .returned (.slice (some ⟨q, 0, none⟩) j cq) ∧ Below wr.heap.size wr w') := by
                  refine h50.mono ?_
                  rintro e w' ⟨v, rfl, ⟨q, cq, rfl, _⟩, b⟩
                  exact ⟨q, cq, by rw [hl], b⟩
                have HQ2 : Hid (∀ v, Below wr.heap.size wr v → RowC v g FIN) := fun v b => by
                  have := HQ.out.2
                  exact this.next b
                clear HEnd HAll h50 ha e1 e2 e hl
                go_wp2_with (go_at_call 50; refine H50.out.mono ?_; rintro e w5 ⟨q, cq, rfl, B5⟩)
                go_ret
                first | exact ⟨g, cp, by rw [HQ.out.1]; rfl, HQ2.out _ B5, HBw.out.trans (B5.mono HBw.out.size)⟩ | exact ⟨g, ⟨cp, by rw [HQ.out.1]; rfl⟩, HQ2.out _ B5, HBw.out.trans (B5.mono HBw.out.size)⟩
              · obtain ⟨f', hf', he⟩ := usN_more (by rw [HM.out]; exact e) Fu.out.1
                have HFn : Hid (c.tk.n ≤ f' ∧ usN f' c.tk = FIN) := ⟨hf', by rw [← he]; exact Fu.out.2⟩
                have HKn : Hid (Ok c.tk) := K.out.tk
                have hlt : Hid (c.tk.n < j) := by have := c.tk_le; rw [HM.out] at this; show _ < _; omega
                have hne : (((c.tk.n : Nat) : Int) == ((j : Nat) : Int)) = false := by simp; omega
                have H50 : Hid (Calls Tryd.prog 50 #[.slice (some ⟨g, 0, none⟩) j cp, .slice (some ⟨U.heap.size, 0, none⟩) j j] wr fun e w' => ∃ q cq, e = .returned (.slice (some ⟨q, 0, none⟩) c.tk.n cq) ∧ RowC w' q c.tk ∧ Below wr.heap.size wr w') := by
                  refine h50.mono ?_
                  rintro e w' ⟨v, rfl, ⟨q, cq, rfl, r⟩, b⟩
                  refine ⟨q, cq, by rw [HTk.out], ?_, b⟩
                  unfold RowC
                  rw [HTk.out]
                  have hM := HM.out
                  unfold Cd.tk
                  rw [hM]
                  exact r
                generalize c.tk = d at HFn HKn hlt hne H50
                clear HEnd HAll h50 ha e he hf' HTk
                go_wp2_with (go_at_call 50; refine H50.out.mono ?_; rintro e w5 ⟨q, cq, rfl, R5, B5⟩)
                have HB5 : Hid (Below w.heap.size w w5) := HBw.out.trans (B5.mono HBw.out.size)
                have HR5 : Hid (RowC w5 q d) := R5
                clear B5 R5
                go_roundg d.n
                case measure => have := hlt.out; have := HM.out; omega
                case rel => exact ⟨d, q, cq, f', rfl, rfl, HKn, HR5, HFn, HB5⟩
/-- How many instructions DropUnread answers. -/
def urN (O D A B C X : Nat → Int) (n : Nat) : Nat := if goodC O D A B C X n then (usN n ⟨O, D, A, B, C, X, n⟩).n else 0
set_option maxRecDepth 100000 in
set_option maxHeartbeats 2000000 in
theorem drop20 (n a cap : Nat) (O D A B C X : Nat → Int) (w : World) (R : RowI w a n O D A B C X) (hX : Wds X n) (hn : n ≤ 1048576) : Calls Tryd.prog 20 #[.slice (some ⟨a, 0, none⟩) n cap] w fun e w' => ∃ u, e = .returned (.tuple #[u, .bool (goodC O D A B C X n)]) ∧ (RowIV w' u (urN O D A B C X n) (usN n ⟨O, D, A, B, C, X, n⟩).O (usN n ⟨O, D, A, B, C, X, n⟩).D (usN n ⟨O, D, A, B, C, X, n⟩).A (usN n ⟨O, D, A, B, C, X, n⟩).B (usN n ⟨O, D, A, B, C, X, n⟩).C (usN n ⟨O, D, A, B, C, X, n⟩).X ∧ ∀ g, u.ownBlock = some g → w.heap.size ≤ g) ∧ Below w.heap.size w w' := by
  have h9 := good9 n a cap O D A B C X w R hX hn
  cases hg : goodC O D A B C X n
  · have HV : Hid (urN O D A B C X n = 0) := by show _ = _; unfold urN; rw [hg]; rfl
    rw [hg] at h9
    clear hX R hg
    generalize urN O D A B C X n = m at HV ⊢
    go_enter Tryd.func20, Tryd.ntmps20
    go_wp2_with (go_at_call 26; refine h9.mono ?_; rintro e w1 ⟨rfl, B1⟩)
    go_ret2
    exact ⟨_, rfl, ⟨Or.inl ⟨HV.out, rfl⟩, fun g hg => by cases hg⟩, B1⟩
  · have HV : Hid (urN O D A B C X n = (usN n ⟨O, D, A, B, C, X, n⟩).n) := by show _ = _; unfold urN; rw [hg]; rfl
    have K := ok_of hg hX
    have H37 : Hid (∀ v, RowI v a n O D A B C X → Calls Tryd.prog 37 #[.slice (some ⟨a, 0, none⟩) n cap] v fun e w' => ∃ g cp, e = .returned (.slice (some ⟨g, 0, none⟩) (usN n ⟨O, D, A, B, C, X, n⟩).n cp) ∧ RowC w' g (usN n ⟨O, D, A, B, C, X, n⟩) ∧ Below v.heap.size v w') := fun v r => unread37 n a cap ⟨O, D, A, B, C, X, n⟩ K v rfl r
    have HL : Hid (1 ≤ (usN n ⟨O, D, A, B, C, X, n⟩).n ∧ (usN n ⟨O, D, A, B, C, X, n⟩).n ≤ 600) := ⟨usN_pos n _ K, by have h1 := usN_le n ⟨O, D, A, B, C, X, n⟩; have h2 := K.n1; simp only at h1 h2; omega⟩
    have HR : Hid (RowI w a n O D A B C X) := R
    rw [hg] at h9
    clear hX R hg K
    generalize urN O D A B C X n = m at HV ⊢
    generalize usN n ⟨O, D, A, B, C, X, n⟩ = F at HV H37 HL ⊢
    go_enter Tryd.func20, Tryd.ntmps20
    go_wp2_with (first | (go_at_call 26; refine h9.mono ?_; rintro e w1 ⟨rfl, B1⟩) | (go_at_call 37; refine (H37.out w1 (HR.out.next B1)).mono ?_; rintro e w2 ⟨g, c, rfl, R2, B2⟩) | (go_at_call 33; refine (copy32 _ g c _ _ _ _ _ _ w2 R2 HL.out.1 HL.out.2).mono ?_; rintro e w3 ⟨g3, c3, rfl, hg3, R3, B3⟩))
    go_ret2
    have B12 := B1.trans (B2.mono B1.size)
    exact ⟨_, rfl, ⟨by rw [HV.out]; exact Or.inr ⟨g3, c3, rfl, R3⟩, fun q hq => by simp [Value.ownBlock] at hq; have := B12.size; omega⟩, B12.trans (B3.mono B12.size)⟩
set_option maxRecDepth 100000 in
set_option maxHeartbeats 4000000 in
theorem drop21 (n a cap : Nat) (O D A B C X : Nat → Int) (w : World) (G : Forms w) (R : RowI w a n O D A B C X) (hX : Wds X n) (hn : n ≤ 1048576) : Calls Tryd.prog 21 #[.slice (some ⟨a, 0, none⟩) n cap] w fun e w' => ∃ u, e = .returned (.tuple #[u, .bool (goodC O D A B C X n)]) ∧ (RowIV w' u (urN O D A B C X n) (usN n ⟨O, D, A, B, C, X, n⟩).O (usN n ⟨O, D, A, B, C, X, n⟩).D (usN n ⟨O, D, A, B, C, X, n⟩).A (usN n ⟨O, D, A, B, C, X, n⟩).B (usN n ⟨O, D, A, B, C, X, n⟩).C (usN n ⟨O, D, A, B, C, X, n⟩).X ∧ ∀ g, u.ownBlock = some g → w.heap.size ≤ g) ∧ Below w.heap.size w w' := by
  have h9 := good11 n a cap O D A B C X w G R hX hn
  suffices H : Calls Tryd.prog 35 #[.slice (some ⟨a, 0, none⟩) n cap, .func (.func 38) #[] #[]] w fun e w' => ∃ u, e = .returned (.tuple #[u, .bool (goodC O D A B C X n)]) ∧ (RowIV w' u (urN O D A B C X n) (usN n ⟨O, D, A, B, C, X, n⟩).O (usN n ⟨O, D, A, B, C, X, n⟩).D (usN n ⟨O, D, A, B, C, X, n⟩).A (usN n ⟨O, D, A, B, C, X, n⟩).B (usN n ⟨O, D, A, B, C, X, n⟩).C (usN n ⟨O, D, A, B, C, X, n⟩).X ∧ ∀ g, u.ownBlock = some g → w.heap.size ≤ g) ∧ Below w.heap.size w w' by
    clear h9 G R hX
    go_enter Tryd.func21, Tryd.ntmps21
    go_wp2_with (go_at_call 35; refine H.mono ?_; rintro e w1 ⟨u, rfl, U, B1⟩)
    go_ret2
    exact ⟨u, rfl, U, B1⟩
  cases hg : goodC O D A B C X n
  · have HV : Hid (urN O D A B C X n = 0) := by show _ = _; unfold urN; rw [hg]; rfl
    rw [hg] at h9
    clear hX R hg
    generalize urN O D A B C X n = m at HV ⊢
    go_enter Tryd.func35, Tryd.ntmps35
    go_wp2_with (go_at_call 29; refine h9.mono ?_; rintro e w1 ⟨rfl, B1⟩)
    go_ret2
    exact ⟨_, rfl, ⟨Or.inl ⟨HV.out, rfl⟩, fun g hg => by cases hg⟩, B1⟩
  · have HV : Hid (urN O D A B C X n = (usN n ⟨O, D, A, B, C, X, n⟩).n) := by show _ = _; unfold urN; rw [hg]; rfl
    have K := ok_of hg hX
    have H38 : Hid (∀ v, Forms v → RowI v a n O D A B C X → Calls Tryd.prog 38 #[.slice (some ⟨a, 0, none⟩) n cap] v fun e w' => ∃ g cp, e = .returned (.slice (some ⟨g, 0, none⟩) (usN n ⟨O, D, A, B, C, X, n⟩).n cp) ∧ v.heap.size ≤ g ∧ RowC w' g (usN n ⟨O, D, A, B, C, X, n⟩) ∧ Below v.heap.size v w') := fun v f r => drop38 n a cap ⟨O, D, A, B, C, X, n⟩ K v f rfl r
    have HR : Hid (RowI w a n O D A B C X) := R
    have HF : Hid (∀ v, Below w.heap.size w v → Forms v) := fun v b => G.below b
    rw [hg] at h9
    clear hX R hg K G
    generalize urN O D A B C X n = m at HV ⊢
    generalize usN n ⟨O, D, A, B, C, X, n⟩ = F at HV H38 ⊢
    go_enter Tryd.func35, Tryd.ntmps35
    go_wp2_with (first | (go_at_call 29; refine h9.mono ?_; rintro e w1 ⟨rfl, B1⟩) | (go_at_call 38; refine (H38.out w1 (HF.out _ B1) (HR.out.next B1)).mono ?_; rintro e w2 ⟨g, c, rfl, hg2, R2, B2⟩))
    go_ret2
    exact ⟨_, rfl, ⟨by rw [HV.out]; exact Or.inr ⟨g, c, rfl, R2⟩, fun q hq => by simp [Value.ownBlock] at hq; have := B1.size; omega⟩, B1.trans (B2.mono B1.size)⟩
end Go.Proofs.YtlfgboiejoiboaaDoor
