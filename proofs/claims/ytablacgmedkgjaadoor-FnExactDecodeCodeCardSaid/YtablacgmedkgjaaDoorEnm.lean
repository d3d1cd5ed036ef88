/- The model's l10Bytes: what it lays; conditions: good code of at most 600, the row stands in memory. -/
import Derived.Test.YtablacgmedkgjaaDoorEnc
import Derived.Deep.Cut
import Derived.Deep.DeepCutAuto
namespace Go.Proofs.YtablacgmedkgjaaDoor
open Go.ChangeShapes Go.WideShapes Go.ChangeAt Go.RowKit
set_option linter.unusedVariables false
set_option maxRecDepth 100000 in
set_option maxHeartbeats 8000000 in
theorem bytes42 (n a cap : Nat) (O D A B C X : Nat → Int) (w : World) (R : RowI w a n O D A B C X) (hb : ∀ k, k < n → Bds (O k) (D k) (A k) (B k) (C k) (X k)) (hn : n ≤ 600) : Calls Tryd.prog 46 #[.slice (some ⟨a, 0, none⟩) n cap] w fun e w' => ∃ v, e = .returned v ∧ Rb w.heap.size w' v (encB O D A B C X n) ∧ Below w.heap.size w w' := by
  obtain ⟨i5, hi5, hz50, hz51, hz52⟩ := info_parts info5
  have HR : Hid (RowI w a n O D A B C X) := R
  have HBd : Hid (∀ k, k < n → Bds (O k) (D k) (A k) (B k) (C k) (X k)) := hb
  clear R hb
  have R0 : Hid (Rb w.heap.size (w.alloc (.cells #[.int .u8 75, .int .u8 79, .int .u8 68, .int .u8 49] 5)) (.slice (some ⟨w.heap.size, 0, none⟩) 4 4) [75, 79, 68, 49]) := ⟨World.ownsRow_lit w #[.int .u8 75, .int .u8 79, .int .u8 68, .int .u8 49] 4 (Nat.le_refl _) (by decide) rfl, by simp⟩
  have H0 : Hid (Calls Tryd.prog 75 #[.slice (some ⟨w.heap.size, 0, none⟩) 4 4, .int .i64 (n : Int), .int .i64 2] (w.alloc (.cells #[.int .u8 75, .int .u8 79, .int .u8 68, .int .u8 49] 5)) fun e w' => ∃ v', e = .returned v' ∧ Rb w.heap.size w' v' ([75, 79, 68, 49] ++ lows n 2) ∧ Gro (w.alloc (.cells #[.int .u8 75, .int .u8 79, .int .u8 68, .int .u8 49] 5)) (.slice (some ⟨w.heap.size, 0, none⟩) 4 4) w' v') := low68 w.heap.size 2 _ _ n _ R0.out (by omega) (by omega) (by decide) (by simp)
  go_enter Tryd.func46, Tryd.ntmps46
  go_wp2_with (go_at_call 75; refine H0.out.mono ?_; rintro e w1 ⟨v1, rfl, R1, G1⟩)
  have B1 : Below w.heap.size w w1 := (((Below.refl _ _).alloc (Nat.le_refl _) _).trans (G1.below (by simp) (fun g hg => by simp [Value.ownBlock] at hg; omega)))
  have HR1 : Hid (Rb w.heap.size w1 v1 (codeB O D A B C X n 0)) := R1
  clear R0 H0 R1 G1
  go_loopw [3, 15] (fun vv i wr => ∃ (k : Nat) (u : Value), k ≤ n ∧ i = .int .i64 k ∧ u = vv ∧ Hid (Rb w.heap.size wr u (codeB O D A B C X n k)) ∧ Below w.heap.size w wr) (fun _ i _ => n - (intOf i).toNat)
  case atStart => exact ⟨0, v1, by omega, rfl, rfl, HR1, B1⟩
  case round =>
    obtain ⟨k, u, hk, rfl, rfl, HU, BK⟩ := hrel
    clear HR1 B1
    have RK := HR.out.next BK
    by_cases hkn : k < n
    · have i1 : (k : Int) < (n : Int) := by omega
      have i0 : (0 : Int) ≤ (k : Int) := by omega
      have c0 := RK.c0 k hkn
      have c1 := RK.c1 k hkn
      have c2 := RK.c2 k hkn
      have c3 := RK.c3 k hkn
      have c4 := RK.c4 k hkn
      have c5 := RK.c5 k hkn
      obtain ⟨ho, hv⟩ := HBd.out k hkn
      have HV : Hid (∀ j, j < 5 → 0 ≤ val (D k) (A k) (B k) (C k) (X k) j ∧ val (D k) (A k) (B k) (C k) (X k) j < 4294967296) := hv
      have HF : Hid (∀ v, Calls Tryd.prog 52 #[.int .i64 (O k)] v fun e w' => e = .returned (.int .i64 (fN (O k))) ∧ w' = v) := fun v => fields47 (O k) v ho
      have HT : Hid (∀ j, j < 4 → (bits .and .i64 (fN (O k) / 2 ^ (4 - j)) 1 == 1) = nmd (O k) j) := fN_bit (O k) ho
      have HT4 : Hid ((bits .and .i64 (fN (O k)) 1 == 1) = nmd (O k) 4) := fN_bit4 (O k) ho
      have o0 : 0 ≤ O k := by omega
      have o1 : O k < 256 := by omega
      have HL := codeB_len O D A B C X n k
      have HE : Hid (codeB O D A B C X n (k + 1) = codeB O D A B C X n k ++ (O k :: fldB (O k) (D k) (A k) (B k) (C k) (X k) 5)) := rfl
      generalize codeB O D A B C X n k = E at HU HL HE
      clear hv RK ho
      go_upto_region 6 with (at_builtin; refine wpList_append_lies _ rfl _ _ 40 rfl w.heap.size 5 i5 (.int .u8 0) 1 1 Tryd.underlying40 hi5 hz50 hz51 hz52 rfl (by decide) _ _ _ rfl ((HU.out.1.alloc _).alloc _) ⟨wr.heap.size + 1, 0, none⟩ 1 1 [.int .u8 (O k)] rfl rfl ?c1 ?c2 (by decide) ?c3 ?c4 ?c5 _ rfl ?_)
      case c1 =>
        intro j u hj
        match j, hj with
        | 0, hj => simp at hj; subst hj; simp [Addr.add]
      case c2 => intro u hu; simp at hu; subst hu; rfl
      case c3 => unfold maxLen; omega
      case c4 => omega
      case c5 => have := HU.out.2; simp; omega
      intro g cap' w2 hown hgrow hat hlt
      have hne : some wr.heap.size ≠ u.ownBlock := fun e => by have := (HU.out.lt _ e.symm).2; omega
      obtain ⟨q, hq⟩ : ∃ q, wr.heap.size = q := ⟨_, rfl⟩
      obtain ⟨m, hm⟩ : ∃ m, E.length + 1 = m := ⟨_, rfl⟩
      have G2 : Gro ((wr.alloc (.cells #[.int .i64 (O k), .int .i64 (D k), .int .i64 (A k), .int .i64 (B k), .int .i64 (C k), .int .u32 (X k)] 35)).alloc (.cells #[.int .u8 (O k)] 5)) u w2 (.slice (some ⟨g, 0, none⟩) m cap') := by
        refine ⟨hgrow, ?_⟩
        rcases hat with e | e
        · exact Or.inl e.symm
        · exact Or.inr ⟨g, rfl, by rw [e]; simp⟩
      have R2 : Hid (Rb w.heap.size w2 (.slice (some ⟨g, 0, none⟩) m cap') (E ++ [O k])) := by
        refine ⟨?_, ?_⟩
        · rw [bl_app, List.length_append, show ([O k] : List Int).length = 1 from rfl, hm]
          rw [hm] at hown
          exact hown
        · have := hgrow.size; have := HU.out.2; simp at *; omega
      have d0 : w2.cell? ⟨wr.heap.size, 0, none⟩ = some (.int .i64 (O k)) := G2.cell (by simp) hne
      have d1 : w2.cell? ⟨wr.heap.size, 1, none⟩ = some (.int .i64 (D k)) := G2.cell (by simp) hne
      have d2 : w2.cell? ⟨wr.heap.size, 2, none⟩ = some (.int .i64 (A k)) := G2.cell (by simp) hne
      have d3 : w2.cell? ⟨wr.heap.size, 3, none⟩ = some (.int .i64 (B k)) := G2.cell (by simp) hne
      have d4 : w2.cell? ⟨wr.heap.size, 4, none⟩ = some (.int .i64 (C k)) := G2.cell (by simp) hne
      have d5 : w2.cell? ⟨wr.heap.size, 5, none⟩ = some (.int .u32 (X k)) := G2.cell (by simp) hne
      have B2 : Hid (Below w.heap.size w w2) := ((BK.alloc BK.size _).alloc (by have := BK.size; simp; omega) _).trans (G2.below (by have := BK.size; simp; omega) (fun g hg => (HU.out.lt g hg).1))
      have ql : wr.heap.size < w2.heap.size := World.block_lt_of_cell? _ ⟨wr.heap.size, 0, none⟩ d0
      have gl := (R2.out.lt g rfl).2
      have gq : g ≠ wr.heap.size := by
        intro e
        rcases hat with h | h
        · exact hne (by rw [← e, h])
        · omega
      rw [hm]
      rw [hq] at d0 d1 d2 d3 d4 d5 ql gq ⊢
      clear hown hgrow hat hlt G2 hne c0 c1 c2 c3 c4 c5 HU hm hq BK
      have HC3 : Hid (∀ j, j < 4 → (w2.alloc (.cells #[.int .i64 (D k), .int .i64 (A k), .int .i64 (B k), .int .i64 (C k)] 3)).cell? ⟨w2.heap.size, j, none⟩ = some (.int .i64 (val (D k) (A k) (B k) (C k) (X k) j))) := fun j hj => by rcases (by omega : j = 0 ∨ j = 1 ∨ j = 2 ∨ j = 3) with rfl | rfl | rfl | rfl <;> simp [val]
      have HG3 : Hid (Rb w.heap.size (w2.alloc (.cells #[.int .i64 (D k), .int .i64 (A k), .int .i64 (B k), .int .i64 (C k)] 3)) (.slice (some ⟨g, 0, none⟩) m cap') (E ++ [O k] ++ fldB (O k) (D k) (A k) (B k) (C k) (X k) 0)) := by show Rb _ _ _ _; rw [fldB, List.append_nil]; exact R2.out.alloc _
      have HD5 : Hid ((w2.alloc (.cells #[.int .i64 (D k), .int .i64 (A k), .int .i64 (B k), .int .i64 (C k)] 3)).cell? ⟨q, 5, none⟩ = some (.int .u32 (X k))) := (((Below.refl w2.heap.size w2).alloc (Nat.le_refl _) _).cell (p := ⟨q, 5, none⟩) ql).trans d5
      have HB3 : Hid (Below w.heap.size w (w2.alloc (.cells #[.int .i64 (D k), .int .i64 (A k), .int .i64 (B k), .int .i64 (C k)] 3))) := B2.out.alloc B2.out.size _
      obtain ⟨F, hF⟩ : ∃ F, fN (O k) = F := ⟨_, rfl⟩
      have HFF : Hid (fN (O k) = F) := hF
      rw [hF] at HF HT HT4
      clear hF
      go_wp2_with (go_at_call 52; refine (HF.out _).mono ?_; rintro e w3 ⟨rfl, hw⟩; subst w3)
      obtain ⟨W3, hW3⟩ : ∃ W3, w2.alloc (.cells #[.int .i64 (D k), .int .i64 (A k), .int .i64 (B k), .int .i64 (C k)] 3) = W3 := ⟨_, rfl⟩
      obtain ⟨s, hs⟩ : ∃ s, w2.heap.size = s := ⟨_, rfl⟩
      rw [hW3] at HC3 HG3 HD5 HB3 ⊢
      rw [hs] at HC3 ql gl ⊢
      have HFA : Hid (fldB (O k) (D k) (A k) (B k) (C k) (X k) 5 = fldB (O k) (D k) (A k) (B k) (C k) (X k) 4 ++ (if nmd (O k) 4 then lows (X k) 4 else [])) := rfl
      have HFS : Hid (∀ j, j < 4 → fldB (O k) (D k) (A k) (B k) (C k) (X k) (j + 1) = fldB (O k) (D k) (A k) (B k) (C k) (X k) j ++ (if nmd (O k) j then lows (val (D k) (A k) (B k) (C k) (X k) j) 2 else [])) := fun j hj => by show _ = _; rw [fldB, show fldW j = 2 by unfold fldW; rw [if_neg (by omega)]]
      have HFL : Hid (∀ j, (fldB (O k) (D k) (A k) (B k) (C k) (X k) j).length ≤ 4 * j) := fldB_len _ _ _ _ _ _
      generalize fldB (O k) (D k) (A k) (B k) (C k) (X k) = FD at HE HG3 HFA HFS HFL
      clear hW3 hs d0 d1 d2 d3 d4 d5 R2 B2
      go_loopw [3, 38] (fun vv i wx => ∃ (j : Nat) (u' : Value), j ≤ 4 ∧ i = .int .i64 j ∧ u' = vv ∧ Hid (Rb w.heap.size wx u' (E ++ [O k] ++ FD j)) ∧ Hid (Gro W3 (.slice (some ⟨g, 0, none⟩) m cap') wx u')) (fun _ i _ => 4 - (intOf i).toNat)
      case atStart => exact ⟨0, _, by omega, rfl, rfl, HG3, Gro.refl _ _⟩
      case round =>
        obtain ⟨j, u', hj, rfl, rfl, HJ, GJ⟩ := hrel
        by_cases hj4 : j < 4
        · have j1 : (j : Int) < 4 := by omega
          have j0 : (0 : Int) ≤ (j : Int) := by omega
          have cj := GJ.out.cell (HC3.out j hj4) (by simp [Value.ownBlock]; omega)
          obtain ⟨V0, V1⟩ := HV.out j (by omega)
          have HFj := HFS.out j hj4
          have HLj := HFL.out j
          generalize val (D k) (A k) (B k) (C k) (X k) j = V at cj V0 V1 HFj
          have F0 : 0 ≤ F := by rw [← HFF.out]; unfold fN; repeat' split; all_goals omega
          have F1 : F ≤ 31 := by rw [← HFF.out]; unfold fN; repeat' split; all_goals omega
          have hT := HT.out j hj4
          have HLo : Hid (Calls Tryd.prog 75 #[u', .int .i64 V, .int .i64 2] wr fun e w' => ∃ v', e = .returned v' ∧ Rb w.heap.size w' v' (E ++ [O k] ++ FD j ++ lows V 2) ∧ Gro wr u' w' v') := low68 w.heap.size 2 _ u' V wr HJ.out V0 V1 (by decide) (by simp; omega)
          clear HFS HFL HC3 HV HT
          cases hN : nmd (O k) j
          · rw [hN] at hT HFj
            have HN : Hid (FD (j + 1) = FD j) := by show _ = _; rw [HFj]; simp
            clear hN HFj
            go_wp2
            go_roundw
            case rel => exact ⟨j + 1, _, by omega, by go_num, rfl, by rw [HN.out]; exact HJ, GJ⟩
            case measure => simp [intOf]; omega
          · rw [hN] at hT HFj
            have HN : Hid (FD (j + 1) = FD j ++ lows V 2) := by show _ = _; rw [HFj]; simp
            clear hN HFj
            go_wp2_with (go_at_call 75; refine HLo.out.mono ?_; rintro e w4 ⟨v4, rfl, R4, G4⟩)
            go_roundw
            case rel => exact ⟨j + 1, _, by omega, by go_num, rfl, by show Rb _ _ _ _; rw [HN.out, ← List.append_assoc]; exact R4, GJ.out.trans G4⟩
            case measure => simp [intOf]; omega
        · have hjj : j = 4 := by omega
          subst hjj
          obtain ⟨V0, V1⟩ := HV.out 4 (by omega)
          have V0' : 0 ≤ X k := V0
          have V1' : X k < 4294967296 := V1
          have cX := GJ.out.cell HD5.out (by simp [Value.ownBlock]; omega)
          have HLj := HFL.out 4
          have hT := HT4.out
          have HLo : Hid (Calls Tryd.prog 75 #[u', .int .i64 (X k), .int .i64 4] wr fun e w' => ∃ v', e = .returned v' ∧ Rb w.heap.size w' v' (E ++ [O k] ++ FD 4 ++ lows (X k) 4) ∧ Gro wr u' w' v') := low68 w.heap.size 4 _ u' (X k) wr HJ.out V0' V1' (by decide) (by simp; omega)
          have BJ : Hid (Below w.heap.size w wr) := HB3.out.trans (GJ.out.below HB3.out.size (fun g' hg' => (HG3.out.lt g' hg').1))
          have FA := HFA.out
          clear HFS HFL HC3 HV HT HT4 V0 V1
          rw [show ((4 : Nat) : Int) = 4 from rfl]
          cases hN : nmd (O k) 4
          · rw [hN] at hT FA
            have HN : Hid (codeB O D A B C X n (k + 1) = E ++ [O k] ++ FD 4) := by show _ = _; rw [HE.out, FA]; simp
            clear hN FA
            go_wp2
            go_roundw
            case rel => exact ⟨k + 1, _, by omega, by go_num, rfl, by rw [HN.out]; exact HJ, BJ.out⟩
            case measure => simp [intOf]; omega
          · rw [hN] at hT FA
            have HN : Hid (codeB O D A B C X n (k + 1) = E ++ [O k] ++ FD 4 ++ lows (X k) 4) := by show _ = _; rw [HE.out, FA]; simp
            clear hN FA
            go_wp2_with (go_at_call 75; refine HLo.out.mono ?_; rintro e w4 ⟨v4, rfl, R4, G4⟩)
            go_roundw
            case rel => exact ⟨k + 1, _, by omega, by go_num, rfl, by show Rb _ _ _ _; rw [HN.out]; exact R4, BJ.out.trans (G4.below BJ.out.size (fun g' hg' => (HJ.out.lt g' hg').1))⟩
            case measure => simp [intOf]; omega
    · have hkk : k = n := by omega
      subst hkk
      have HL := codeB_len O D A B C X k k
      have HE : Hid (encB O D A B C X k = codeB O D A B C X k k ++ lows (crcL (codeB O D A B C X k k)) 2) := rfl
      have HP : Hid (0 < (codeB O D A B C X k k).length) := codeB_pos O D A B C X k k
      have HI : Hid (∀ i, i < (codeB O D A B C X k k).length → 0 ≤ (codeB O D A B C X k k).getD i 0 ∧ (codeB O D A B C X k k).getD i 0 < 256) := codeB_byte O D A B C X k HBd.out k (Nat.le_refl _)
      generalize codeB O D A B C X k k = E at HU HL HE HP HI
      obtain ⟨g, cp, rfl, hg, _⟩ := World.ownsRow.form HU.out.1 HP.out
      have OW : Hid (Own wr g E.length (fun i => .int .u8 (E.getD i 0))) := own_owned HU.out.1 _ (fun i hi => by unfold bl; rw [List.getElem?_map, List.getD_eq_getElem?_getD, List.getElem?_eq_getElem hi]; rfl)
      have HC : Hid (Calls Tryd.prog 76 #[.slice (some ⟨g, 0, none⟩) E.length cp] wr fun e w' => e = .returned (.int .i64 (crcL E)) ∧ w' = wr) := crc69 g E.length cp _ wr (by omega) OW.out HI.out
      obtain ⟨r0, r1⟩ := crcF_range (fun i => E.getD i 0) E.length
      have HLo : Hid (Calls Tryd.prog 75 #[.slice (some ⟨g, 0, none⟩) E.length cp, .int .i64 (crcL E), .int .i64 2] wr fun e w' => ∃ v', e = .returned v' ∧ Rb w.heap.size w' v' (E ++ lows (crcL E) 2) ∧ Gro wr (.slice (some ⟨g, 0, none⟩) E.length cp) w' v') := low68 w.heap.size 2 _ _ (crcL E) wr HU.out r0 (by unfold crcL; omega) (by decide) (by omega)
      clear RK r0 r1
      go_wp2_with (first | (go_at_call 76; refine HC.out.mono ?_; rintro e w4 ⟨rfl, hw⟩; subst w4) | (go_at_call 75; refine HLo.out.mono ?_; rintro e w5 ⟨v5, rfl, R5, G5⟩))
      go_ret
      exact ⟨_, rfl, by rw [HE.out]; exact R5, BK.trans (G5.below BK.size (fun g' hg' => (HU.out.lt g' hg').1))⟩
end Go.Proofs.YtablacgmedkgjaaDoor
