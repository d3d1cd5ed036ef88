/- The program's RegsOf. -/
import Derived.Test.YtmeokhppaekhpaaGreatDoorRgm
namespace Go.Proofs.YtmeokhppaekhpaaGreatDoor
open Go.ChangeShapes Go.WideShapes Go.ChangeAt Go.RowKit
set_option linter.unusedVariables false
set_option maxRecDepth 100000 in
set_option maxHeartbeats 2000000 in
theorem writesR (o : Int) (w : World) : Calls Tryz.prog 57 #[.int .i64 o] w fun e w' => e = .returned (.bool (nmd o 0)) ∧ Below w.heap.size w w' := by
  have h := fields37 o w
  have hx := ixb0
  go_enter Tryz.func57, Tryz.ntmps57
  go_wp2_with (go_at_call 98; refine h.mono ?_; rintro e w1 ⟨rfl, B1⟩)
  go_ret
  exact ⟨rfl, B1⟩
set_option maxRecDepth 100000 in
set_option maxHeartbeats 4000000 in
theorem regs14 (n a cap : Nat) (O D A B C X : Nat → Int) (w : World) (G : Forms w) (R : RowI w a n O D A B C X) (hX : Wds X n) (hn : n ≤ 1048576) : Calls Tryz.prog 36 #[.slice (some ⟨a, 0, none⟩) n cap] w fun e w' => e = .returned (.int .i64 (regsV O D A B C X n)) ∧ Below w.heap.size w w' := by
  have h11 := good11 n a cap O D A B C X w G R hX hn
  cases hg : goodC O D A B C X n
  · have HV : Hid (regsV O D A B C X n = 0) := by show _ = _; unfold regsV; rw [hg]; rfl
    rw [hg] at h11
    clear hX R hg G
    go_enter Tryz.func36, Tryz.ntmps36
    go_wp2_with (go_at_call 26; refine h11.mono ?_; rintro e w1 ⟨rfl, B1⟩)
    go_ret
    exact ⟨by rw [HV.out]; rfl, B1⟩
  · have HV : Hid (regsV O D A B C X n = rgn O D A B C X n) := by show _ = _; unfold regsV; rw [hg]; rfl
    obtain ⟨h6, _, hb⟩ := goodC_bds hg
    have HBD : Hid (∀ k, k < n → Bds (O k) (D k) (A k) (B k) (C k) (X k)) := hb
    have HRB : Hid (∀ k, k ≤ n → 0 ≤ rgn O D A B C X k ∧ rgn O D A B C X k ≤ 4294967296) := rgn_bnd O D A B C X n hb
    have H38 : Hid (∀ k, k < n → ∀ v, Forms v → Calls Tryz.prog 58 #[.agg #[.int .i64 (O k), .int .i64 (D k), .int .i64 (A k), .int .i64 (B k), .int .i64 (C k), .int .u32 (X k)]] v fun e w' => ∃ u, e = .returned u ∧ IOwn v.heap.size w' u (opsL (O k) (A k) (B k) (C k) (X k)) ∧ Below v.heap.size v w') := fun k hk v g => operands38 _ _ _ _ _ _ v g (hX k hk).1 (hX k hk).2 (hb k hk).1 (good_call hg k hk)
    have HR : Hid (RowI w a n O D A B C X) := R
    have HF : Hid (∀ v, Below w.heap.size w v → Forms v) := fun v b => G.below b
    rw [hg] at h11
    clear hX R hg hb G
    go_enter Tryz.func36, Tryz.ntmps36
    go_wp2_with (go_at_call 26; refine h11.mono ?_; rintro e w1 ⟨rfl, B1⟩)
    clear h11
    go_loopw [3, 13] (fun nn i wx => ∃ k : Nat, k ≤ n ∧ i = .int .i64 k ∧ nn = .int .i64 (rgn O D A B C X k) ∧ Below w.heap.size w wx) (fun _ i _ => n - (intOf i).toNat)
    case atStart => exact ⟨0, by omega, rfl, rfl, B1⟩
    case round =>
      obtain ⟨k, hk, rfl, rfl, BQ⟩ := hrel
      have RK := HR.out.next BQ
      by_cases hkn : k < n
      · have i1 : (k : Int) < (n : Int) := by omega
        have c0 := RK.c0 k hkn
        have c1 := RK.c1 k hkn
        have c2 := RK.c2 k hkn
        have c3 := RK.c3 k hkn
        have c4 := RK.c4 k hkn
        have c5 := RK.c5 k hkn
        have h37 := fun v => writesR (O k) v
        have h38 := H38.out k hkn
        have rb := HRB.out k hk
        have db := (HBD.out k hkn).2 0 (by omega)
        simp only [val] at db
        have HRG0 : Hid (rgn O D A B C X (k + 1) = ups (lds (O k) (D k) (rgn O D A B C X k)) (opsL (O k) (A k) (B k) (C k) (X k))) := rfl
        obtain ⟨r, hr⟩ : ∃ r, rgn O D A B C X k = r := ⟨_, rfl⟩
        have HRG : Hid (rgn O D A B C X (k + 1) = ups (lds (O k) (D k) r) (opsL (O k) (A k) (B k) (C k) (X k))) := by rw [← hr]; exact HRG0
        rw [hr] at rb ⊢
        clear HRG0 hr
        obtain ⟨M, hM⟩ : ∃ M, opsL (O k) (A k) (B k) (C k) (X k) = M := ⟨_, rfl⟩
        have HMM : Hid (opsL (O k) (A k) (B k) (C k) (X k) = M) := hM
        have HML : Hid (M.length ≤ 3) := by have h2 := opsL_len (O k) (A k) (B k) (C k) (X k); rw [hM] at h2; exact h2
        rw [hM] at h38
        clear hM
        have BA : Hid (Below w.heap.size w (wr.alloc (.cells #[.int .i64 (O k), .int .i64 (D k), .int .i64 (A k), .int .i64 (B k), .int .i64 (C k), .int .u32 (X k)] 51))) := BQ.alloc BQ.size _
        have BF : Hid (∀ v, Below (wr.alloc (.cells #[.int .i64 (O k), .int .i64 (D k), .int .i64 (A k), .int .i64 (B k), .int .i64 (C k), .int .u32 (X k)] 51)).heap.size (wr.alloc (.cells #[.int .i64 (O k), .int .i64 (D k), .int .i64 (A k), .int .i64 (B k), .int .i64 (C k), .int .u32 (X k)] 51)) v → Forms v) := fun v b => HF.out v (BA.out.trans (b.mono BA.out.size))
        have d0 : (wr.alloc (.cells #[.int .i64 (O k), .int .i64 (D k), .int .i64 (A k), .int .i64 (B k), .int .i64 (C k), .int .u32 (X k)] 51)).cell? ⟨wr.heap.size, 0, none⟩ = some (.int .i64 (O k)) := by simp
        have d1 : (wr.alloc (.cells #[.int .i64 (O k), .int .i64 (D k), .int .i64 (A k), .int .i64 (B k), .int .i64 (C k), .int .u32 (X k)] 51)).cell? ⟨wr.heap.size, 1, none⟩ = some (.int .i64 (D k)) := by simp
        have d2 : (wr.alloc (.cells #[.int .i64 (O k), .int .i64 (D k), .int .i64 (A k), .int .i64 (B k), .int .i64 (C k), .int .u32 (X k)] 51)).cell? ⟨wr.heap.size, 2, none⟩ = some (.int .i64 (A k)) := by simp
        have d3 : (wr.alloc (.cells #[.int .i64 (O k), .int .i64 (D k), .int .i64 (A k), .int .i64 (B k), .int .i64 (C k), .int .u32 (X k)] 51)).cell? ⟨wr.heap.size, 3, none⟩ = some (.int .i64 (B k)) := by simp
        have d4 : (wr.alloc (.cells #[.int .i64 (O k), .int .i64 (D k), .int .i64 (A k), .int .i64 (B k), .int .i64 (C k), .int .u32 (X k)] 51)).cell? ⟨wr.heap.size, 4, none⟩ = some (.int .i64 (C k)) := by simp
        have d5 : (wr.alloc (.cells #[.int .i64 (O k), .int .i64 (D k), .int .i64 (A k), .int .i64 (B k), .int .i64 (C k), .int .u32 (X k)] 51)).cell? ⟨wr.heap.size, 5, none⟩ = some (.int .u32 (X k)) := by simp
        have HRb : Hid (0 ≤ r ∧ r ≤ 4294967296) := rb
        clear RK BQ B1
        cases hnm : nmd (O k) 0
        · rw [hnm] at h37
          have HLD : Hid (lds (O k) (D k) r = r) := by show _ = _; unfold lds; rw [hnm]; rfl
          go_wp2_with (first | (go_at_call 57; refine (h37 _).mono ?_; rintro e w2 ⟨rfl, B2⟩; (have e0 := cell_next d0 B2); (have e1 := cell_next d1 B2); (have e2 := cell_next d2 B2); (have e3 := cell_next d3 B2); (have e4 := cell_next d4 B2); (have e5 := cell_next d5 B2); skip) | (go_at_call 58; refine (h38 _ (BF.out _ B2)).mono ?_; rintro e w3 ⟨u, rfl, RI, B3⟩; (obtain ⟨ad, cp, rfl, CM⟩ := RI.lst)))
          have BB : Hid (Below w.heap.size w w3) := (BA.out.trans (B2.mono BA.out.size)).trans (B3.mono (by have := BA.out.size; have := B2.size; omega))
          clear B2 B3 RI e0 e1 e2 e3 e4 e5 h37 h38
          have HSB : Hid (0 ≤ r ∧ r ≤ 4294967296) := HRb.out
          have HEND : Hid (ups r M = rgn O D A B C X (k + 1)) := by show _ = _; rw [HRG.out, HLD.out, ← HMM.out]
          obtain ⟨m, hm⟩ : ∃ m, M.length = m := ⟨_, rfl⟩
          have HM : Hid (M.length = m) := hm
          have hm3 : m ≤ 3 := by have := HML.out; omega
          have HCM : Hid (∀ i, i < M.length → ∃ g, ad = some ⟨g, 0, none⟩ ∧ World.cell? w3 ⟨g, i, none⟩ = some (.int .i64 (M.getD i 0))) := CM
          rw [hm]
          have HMB : Hid (∀ y, y ∈ M → 0 ≤ y ∧ y < 4294967296) := fun y hy => opsL_bnd (HBD.out k hkn) y (by rw [HMM.out]; exact hy)
          clear CM hm
          go_wp2
          go_loop [3, 28] (fun nn i => ∃ j : Nat, j ≤ m ∧ i = .int .i64 j ∧ nn = .int .i64 (ups r (M.take j))) (fun _ i => m - (intOf i).toNat)
          case atStart => exact ⟨0, by omega, rfl, rfl⟩
          case round =>
            obtain ⟨j, hj, rfl, rfl⟩ := hrel
            by_cases hjm : j < m
            · have i2 : (j : Int) < (m : Int) := by omega
              obtain ⟨g, had, cz⟩ := HCM.out j (by rw [HM.out]; exact hjm)
              subst had
              have HT := ups_take r M j (by rw [HM.out]; exact hjm)
              have zb := HMB.out (M.getD j 0) (getD_mem M j (by rw [HM.out]; exact hjm))
              have tb : ups r (M.take j) ≤ 4294967296 := ups_bnd HSB.out.2 (fun y hy => by have := HMB.out y (List.mem_of_mem_take hy); omega)
              have tb0 : 0 ≤ ups r (M.take j) := by have := (ups_ge (M.take j) r).1; have := HSB.out.1; omega
              generalize M.getD j 0 = z at cz HT zb
              generalize ups r (M.take j) = t at HT tb tb0 ⊢
              unfold up at HT
              by_cases htz : t ≤ z
              · rw [if_pos htz] at HT
                have HTh : Hid (ups r (M.take (j + 1)) = z + 1) := HT
                have w1 : wrap64 (z + 1) = z + 1 := by unfold wrap64; omega
                have f1 : t ≤ z + 1 := by omega
                have f2 : ¬ z + 1 < t := by omega
                have m1 : max t (z + 1) = z + 1 := by omega
                clear HT zb tb tb0
                go_wp2
                go_round
                case rel => exact ⟨j + 1, hjm, by go_num, by first | (rw [HTh.out]; done) | (rw [HTh.out, m1]; done)⟩
                case measure => simp [intOf]; omega
              · rw [if_neg htz] at HT
                have HTh : Hid (ups r (M.take (j + 1)) = t) := HT
                have w1 : wrap64 (z + 1) = z + 1 := by unfold wrap64; omega
                have f1 : z + 1 ≤ t := by omega
                have f2 : ¬ t < z + 1 := by omega
                have m1 : max t (z + 1) = t := by omega
                clear HT zb tb tb0
                go_wp2
                go_round
                case rel => exact ⟨j + 1, hjm, by go_num, by first | (rw [HTh.out]; done) | (rw [HTh.out, m1]; done)⟩
                case measure => simp [intOf]; omega
            · have i2 : ¬ (j : Int) < (m : Int) := by omega
              have HE : Hid (ups r (M.take j) = rgn O D A B C X (k + 1)) := by show _ = _; rw [List.take_of_length_le (by rw [HM.out]; omega)]; exact HEND.out
              generalize ups r (M.take j) = t at HE ⊢
              go_wp2
              go_roundw
              case rel => exact ⟨k + 1, hkn, by go_num, by rw [HE.out], BB.out⟩
              case measure => simp [intOf]; omega
        · rw [hnm] at h37
          by_cases hrd : r ≤ D k
          · have f0 : r ≤ D k + 1 := by omega
            have f00 : ¬ D k + 1 < r := by omega
            have m0 : max r (D k + 1) = D k + 1 := by omega
            have w0 : wrap64 (D k + 1) = D k + 1 := by unfold wrap64; omega
            have HLD : Hid (lds (O k) (D k) r = (D k + 1)) := by show _ = _; unfold lds up; rw [hnm, if_pos rfl, if_pos hrd]
            go_wp2_with (first | (go_at_call 57; refine (h37 _).mono ?_; rintro e w2 ⟨rfl, B2⟩; (have e0 := cell_next d0 B2); (have e1 := cell_next d1 B2); (have e2 := cell_next d2 B2); (have e3 := cell_next d3 B2); (have e4 := cell_next d4 B2); (have e5 := cell_next d5 B2); skip) | (go_at_call 58; refine (h38 _ (BF.out _ B2)).mono ?_; rintro e w3 ⟨u, rfl, RI, B3⟩; (obtain ⟨ad, cp, rfl, CM⟩ := RI.lst)))
            have BB : Hid (Below w.heap.size w w3) := (BA.out.trans (B2.mono BA.out.size)).trans (B3.mono (by have := BA.out.size; have := B2.size; omega))
            clear B2 B3 RI e0 e1 e2 e3 e4 e5 h37 h38
            have HSB : Hid (0 ≤ (D k + 1) ∧ (D k + 1) ≤ 4294967296) := ⟨by omega, by omega⟩
            have HEND : Hid (ups (D k + 1) M = rgn O D A B C X (k + 1)) := by show _ = _; rw [HRG.out, HLD.out, ← HMM.out]
            obtain ⟨m, hm⟩ : ∃ m, M.length = m := ⟨_, rfl⟩
            have HM : Hid (M.length = m) := hm
            have hm3 : m ≤ 3 := by have := HML.out; omega
            have HCM : Hid (∀ i, i < M.length → ∃ g, ad = some ⟨g, 0, none⟩ ∧ World.cell? w3 ⟨g, i, none⟩ = some (.int .i64 (M.getD i 0))) := CM
            rw [hm]
            have HMB : Hid (∀ y, y ∈ M → 0 ≤ y ∧ y < 4294967296) := fun y hy => opsL_bnd (HBD.out k hkn) y (by rw [HMM.out]; exact hy)
            clear CM hm
            go_wp2
            go_loop [3, 28] (fun nn i => ∃ j : Nat, j ≤ m ∧ i = .int .i64 j ∧ nn = .int .i64 (ups (D k + 1) (M.take j))) (fun _ i => m - (intOf i).toNat)
            case atStart => exact ⟨0, by omega, rfl, by first | rfl | (rw [m0]; rfl)⟩
            case round =>
              obtain ⟨j, hj, rfl, rfl⟩ := hrel
              by_cases hjm : j < m
              · have i2 : (j : Int) < (m : Int) := by omega
                obtain ⟨g, had, cz⟩ := HCM.out j (by rw [HM.out]; exact hjm)
                subst had
                have HT := ups_take (D k + 1) M j (by rw [HM.out]; exact hjm)
                have zb := HMB.out (M.getD j 0) (getD_mem M j (by rw [HM.out]; exact hjm))
                have tb : ups (D k + 1) (M.take j) ≤ 4294967296 := ups_bnd HSB.out.2 (fun y hy => by have := HMB.out y (List.mem_of_mem_take hy); omega)
                have tb0 : 0 ≤ ups (D k + 1) (M.take j) := by have := (ups_ge (M.take j) (D k + 1)).1; have := HSB.out.1; omega
                generalize M.getD j 0 = z at cz HT zb
                generalize ups (D k + 1) (M.take j) = t at HT tb tb0 ⊢
                unfold up at HT
                by_cases htz : t ≤ z
                · rw [if_pos htz] at HT
                  have HTh : Hid (ups (D k + 1) (M.take (j + 1)) = z + 1) := HT
                  have w1 : wrap64 (z + 1) = z + 1 := by unfold wrap64; omega
                  have f1 : t ≤ z + 1 := by omega
                  have f2 : ¬ z + 1 < t := by omega
                  have m1 : max t (z + 1) = z + 1 := by omega
                  clear HT zb tb tb0
                  go_wp2
                  go_round
                  case rel => exact ⟨j + 1, hjm, by go_num, by first | (rw [HTh.out]; done) | (rw [HTh.out, m1]; done)⟩
                  case measure => simp [intOf]; omega
                · rw [if_neg htz] at HT
                  have HTh : Hid (ups (D k + 1) (M.take (j + 1)) = t) := HT
                  have w1 : wrap64 (z + 1) = z + 1 := by unfold wrap64; omega
                  have f1 : z + 1 ≤ t := by omega
                  have f2 : ¬ t < z + 1 := by omega
                  have m1 : max t (z + 1) = t := by omega
                  clear HT zb tb tb0
                  go_wp2
                  go_round
                  case rel => exact ⟨j + 1, hjm, by go_num, by first | (rw [HTh.out]; done) | (rw [HTh.out, m1]; done)⟩
                  case measure => simp [intOf]; omega
              · have i2 : ¬ (j : Int) < (m : Int) := by omega
                have HE : Hid (ups (D k + 1) (M.take j) = rgn O D A B C X (k + 1)) := by show _ = _; rw [List.take_of_length_le (by rw [HM.out]; omega)]; exact HEND.out
                generalize ups (D k + 1) (M.take j) = t at HE ⊢
                go_wp2
                go_roundw
                case rel => exact ⟨k + 1, hkn, by go_num, by rw [HE.out], BB.out⟩
                case measure => simp [intOf]; omega
          · have f0 : D k + 1 ≤ r := by omega
            have f00 : ¬ r < D k + 1 := by omega
            have m0 : max r (D k + 1) = r := by omega
            have w0 : wrap64 (D k + 1) = D k + 1 := by unfold wrap64; omega
            have HLD : Hid (lds (O k) (D k) r = r) := by show _ = _; unfold lds up; rw [hnm, if_pos rfl, if_neg hrd]
            go_wp2_with (first | (go_at_call 57; refine (h37 _).mono ?_; rintro e w2 ⟨rfl, B2⟩; (have e0 := cell_next d0 B2); (have e1 := cell_next d1 B2); (have e2 := cell_next d2 B2); (have e3 := cell_next d3 B2); (have e4 := cell_next d4 B2); (have e5 := cell_next d5 B2); skip) | (go_at_call 58; refine (h38 _ (BF.out _ B2)).mono ?_; rintro e w3 ⟨u, rfl, RI, B3⟩; (obtain ⟨ad, cp, rfl, CM⟩ := RI.lst)))
            have BB : Hid (Below w.heap.size w w3) := (BA.out.trans (B2.mono BA.out.size)).trans (B3.mono (by have := BA.out.size; have := B2.size; omega))
            clear B2 B3 RI e0 e1 e2 e3 e4 e5 h37 h38
            have HSB : Hid (0 ≤ r ∧ r ≤ 4294967296) := HRb.out
            have HEND : Hid (ups r M = rgn O D A B C X (k + 1)) := by show _ = _; rw [HRG.out, HLD.out, ← HMM.out]
            obtain ⟨m, hm⟩ : ∃ m, M.length = m := ⟨_, rfl⟩
            have HM : Hid (M.length = m) := hm
            have hm3 : m ≤ 3 := by have := HML.out; omega
            have HCM : Hid (∀ i, i < M.length → ∃ g, ad = some ⟨g, 0, none⟩ ∧ World.cell? w3 ⟨g, i, none⟩ = some (.int .i64 (M.getD i 0))) := CM
            rw [hm]
            have HMB : Hid (∀ y, y ∈ M → 0 ≤ y ∧ y < 4294967296) := fun y hy => opsL_bnd (HBD.out k hkn) y (by rw [HMM.out]; exact hy)
            clear CM hm
            go_wp2
            go_loop [3, 28] (fun nn i => ∃ j : Nat, j ≤ m ∧ i = .int .i64 j ∧ nn = .int .i64 (ups r (M.take j))) (fun _ i => m - (intOf i).toNat)
            case atStart => exact ⟨0, by omega, rfl, by first | rfl | (rw [m0]; rfl)⟩
            case round =>
              obtain ⟨j, hj, rfl, rfl⟩ := hrel
              by_cases hjm : j < m
              · have i2 : (j : Int) < (m : Int) := by omega
                obtain ⟨g, had, cz⟩ := HCM.out j (by rw [HM.out]; exact hjm)
                subst had
                have HT := ups_take r M j (by rw [HM.out]; exact hjm)
                have zb := HMB.out (M.getD j 0) (getD_mem M j (by rw [HM.out]; exact hjm))
                have tb : ups r (M.take j) ≤ 4294967296 := ups_bnd HSB.out.2 (fun y hy => by have := HMB.out y (List.mem_of_mem_take hy); omega)
                have tb0 : 0 ≤ ups r (M.take j) := by have := (ups_ge (M.take j) r).1; have := HSB.out.1; omega
                generalize M.getD j 0 = z at cz HT zb
                generalize ups r (M.take j) = t at HT tb tb0 ⊢
                unfold up at HT
                by_cases htz : t ≤ z
                · rw [if_pos htz] at HT
                  have HTh : Hid (ups r (M.take (j + 1)) = z + 1) := HT
                  have w1 : wrap64 (z + 1) = z + 1 := by unfold wrap64; omega
                  have f1 : t ≤ z + 1 := by omega
                  have f2 : ¬ z + 1 < t := by omega
                  have m1 : max t (z + 1) = z + 1 := by omega
                  clear HT zb tb tb0
                  go_wp2
                  go_round
                  case rel => exact ⟨j + 1, hjm, by go_num, by first | (rw [HTh.out]; done) | (rw [HTh.out, m1]; done)⟩
                  case measure => simp [intOf]; omega
                · rw [if_neg htz] at HT
                  have HTh : Hid (ups r (M.take (j + 1)) = t) := HT
                  have w1 : wrap64 (z + 1) = z + 1 := by unfold wrap64; omega
                  have f1 : z + 1 ≤ t := by omega
                  have f2 : ¬ t < z + 1 := by omega
                  have m1 : max t (z + 1) = t := by omega
                  clear HT zb tb tb0
                  go_wp2
                  go_round
                  case rel => exact ⟨j + 1, hjm, by go_num, by first | (rw [HTh.out]; done) | (rw [HTh.out, m1]; done)⟩
                  case measure => simp [intOf]; omega
              · have i2 : ¬ (j : Int) < (m : Int) := by omega
                have HE : Hid (ups r (M.take j) = rgn O D A B C X (k + 1)) := by show _ = _; rw [List.take_of_length_le (by rw [HM.out]; omega)]; exact HEND.out
                generalize ups r (M.take j) = t at HE ⊢
                go_wp2
                go_roundw
                case rel => exact ⟨k + 1, hkn, by go_num, by rw [HE.out], BB.out⟩
                case measure => simp [intOf]; omega
      · have i1 : ¬ (k : Int) < (n : Int) := by omega
        obtain rfl : k = n := by omega
        go_wp2
        go_ret
        exact ⟨by rw [HV.out]; rfl, BQ⟩
end Go.Proofs.YtmeokhppaekhpaaGreatDoor
