/- The program's ComponentAt: it answers what the model's does; conditions: names at most 2^20 long, the row in memory. -/
import Derived.Test.YteakeaclpcgopaaCmp
import Derived.Test.YteakeaclpcgopaaLayI
namespace Go.Proofs.Yteakeaclpcgopaa
open Go.ChangeShapes Go.WideShapes Go.ChangeAt Go.RowKit
set_option linter.unusedVariables false
theorem spot62V (n : Nat) (v : Value) (F0 : Nat → ByteArray) (F1 F2 F3 : Nat → Int) (b : Int) (w : World) (V : RowSV w v n F0 F1 F2 F3) (hn : n ≤ 12) (hF : ∀ i, i < n → 0 ≤ F1 i ∧ F1 i ≤ 100000 ∧ 0 ≤ F2 i ∧ F2 i ≤ 10000) : Calls Try.prog 62 #[v, .int .i64 b] w fun e w' => e = .returned (spotR F0 F1 F2 F3 (firstH (fun i => decide (F1 i ≤ b ∧ b < F1 i + F2 i)) n)) ∧ Below w.heap.size w w' := by
  rcases V with ⟨rfl, rfl⟩ | ⟨o, c, rfl, R⟩
  · exact spot62n b w
  · exact spot62 n o c F0 F1 F2 F3 b w R hn hF
theorem firstH_congr (p q : Nat → Bool) : ∀ n, (∀ j, j < n → p j = q j) → firstH p n = firstH q n
  | 0, _ => rfl
  | n + 1, h => by
    rw [firstH, firstH, firstH_congr p q n (fun j hj => h j (by omega)), h n (by omega)]
set_option maxRecDepth 100000 in
set_option maxHeartbeats 20000000 in
theorem comp23 (n a : Nat) (K T : Nat → ByteArray) (J : Nat → Int) (r b : Int) (w : World) (X : Row3 w a n K T J) (hn : n ≤ 1048576) (hK : ∀ i, i < n → (K i).size ≤ 1048576) : Calls Try.prog 23 #[.slice (some ⟨a, 0, none⟩) n n, .int .i64 r, .int .i64 b] w fun e w' => e = .returned (tupR (compA K T J r b n)) ∧ Below w.heap.size w w' := by
  have HL := layout17 n a K T J r w X hn hK
  unfold compA
  cases hok : okL K T J r n
  case false =>
    rw [hok] at HL
    have HLL : Hid (Calls Try.prog 17 #[.slice (some ⟨a, 0, none⟩) n n, .int .i64 r] w (SaysL w [] 0 0 false)) := HL
    clear HL
    go_enter Try.func23, Try.ntmps23
    go_wp2_with (first | (go_at_call 17; refine HLL.out.mono ?_; rintro e w1 ⟨v, rfl, V1, gv, B1⟩; (have H62 : Hid (∀ w', Below w1.heap.size w1 w' → Calls Try.prog 62 #[v, .int .i64 b] w' fun e w'' => e = .returned (.agg #[.string ⟨#[]⟩, .int .i64 0, .int .i64 0, .int .i64 0]) ∧ Below w'.heap.size w' w'') := fun w' bb => spot62V 0 v _ _ _ _ b w' (V1.next bb) (by omega) (fun i hi => by omega)); (obtain ⟨sv, lv, cv, rfl⟩ := V1.is)) | (go_at_call 62; refine (H62.out _ alloc_b).mono ?_; rintro e w2 ⟨rfl, B2⟩))
    exact bodyPost_ret (v := tupR (⟨#[]⟩, 0, 0, false)) (by simp [results, Try.results23, go_sem, tupR]) rfl ⟨rfl, ((B1.alloc B1.size _).trans (B2.mono (by have := B1.size; simp; omega))).alloc (by have := B1.size; have := B2.size; simp at *; omega) _⟩
  rw [hok] at HL
  obtain ⟨hr, n1, n12, hall⟩ := ok_good hok
  have HLL : Hid (Calls Try.prog 17 #[.slice (some ⟨a, 0, none⟩) n n, .int .i64 r] w (SaysL w (spotsL K T J r n) (laySz T J r n) (layAl T J r n) true)) := HL
  clear HL
  generalize laySz T J r n = SZ at *
  generalize layAl T J r n = AL at *
  simp only [if_true]
  have hF : ∀ i, i < n → 0 ≤ atS1 (spotsL K T J r n) i ∧ atS1 (spotsL K T J r n) i ≤ 100000 ∧ 0 ≤ atS2 (spotsL K T J r n) i ∧ atS2 (spotsL K T J r n) i ≤ 10000 := fun i hi => by
    obtain ⟨_, e1, e2, _⟩ := at_spots K T J r n i hi
    have g := allG_at K T J n hall i hi
    have f := f_bounds (kOf (T i)) (J i) r g.2.1 hr g.2.2.1 g.2.2.2.1
    have o := off_end K T J r hr n hall n12 i hi
    rw [e1, e2]
    omega
  have hcg : firstH (fun i => decide (atS1 (spotsL K T J r n) i ≤ b ∧ b < atS1 (spotsL K T J r n) i + atS2 (spotsL K T J r n) i)) n = firstH (inSpot T J r b) n := firstH_congr _ _ n (fun i hi => by
    obtain ⟨_, e1, e2, _⟩ := at_spots K T J r n i hi
    rw [e1, e2]
    rfl)
  have HSp : Hid (∀ (v : Value) (w' : World), RowSV w' v n (atS0 (spotsL K T J r n)) (atS1 (spotsL K T J r n)) (atS2 (spotsL K T J r n)) (atS3 (spotsL K T J r n)) → Calls Try.prog 62 #[v, .int .i64 b] w' fun e w'' => e = .returned (spotR (atS0 (spotsL K T J r n)) (atS1 (spotsL K T J r n)) (atS2 (spotsL K T J r n)) (atS3 (spotsL K T J r n)) (firstH (inSpot T J r b) n)) ∧ Below w'.heap.size w' w'') := fun v w' V => by
    have h := spot62V n v _ _ _ _ b w' V n12 hF
    rw [hcg] at h
    exact h
  clear hF hcg
  obtain ⟨RR, hRR⟩ : ∃ R, compR K T J r b n = R := ⟨_, rfl⟩
  rw [hRR]
  unfold compR at hRR
  cases hf : firstH (inSpot T J r b) n with
  | none =>
    rw [hf] at HSp hRR
    dsimp only at hRR
    have HRR : Hid (RR = (⟨#[]⟩, 0, 0, false)) := hRR.symm
    have HS2 : Hid (∀ (v : Value) (w' : World), RowSV w' v n (atS0 (spotsL K T J r n)) (atS1 (spotsL K T J r n)) (atS2 (spotsL K T J r n)) (atS3 (spotsL K T J r n)) → Calls Try.prog 62 #[v, .int .i64 b] w' fun e w'' => e = .returned (.agg #[.string ⟨#[]⟩, .int .i64 0, .int .i64 0, .int .i64 0]) ∧ Below w'.heap.size w' w'') := HSp
    clear hRR HSp
    go_enter Try.func23, Try.ntmps23
    go_wp2_with (first | (go_at_call 17; refine HLL.out.mono ?_; rintro e w1 ⟨v, rfl, V1, gv, B1⟩; (rw [spotsL_len] at V1); (have H62 : Hid (∀ w', Below w1.heap.size w1 w' → Calls Try.prog 62 #[v, .int .i64 b] w' fun e w'' => e = .returned (.agg #[.string ⟨#[]⟩, .int .i64 0, .int .i64 0, .int .i64 0]) ∧ Below w'.heap.size w' w'') := fun w' bb => HS2.out v w' (V1.next bb)); (obtain ⟨sv, lv, cv, rfl⟩ := V1.is)) | (go_at_call 62; refine (H62.out _ alloc_b).mono ?_; rintro e w2 ⟨rfl, B2⟩))
    exact bodyPost_ret (v := tupR (⟨#[]⟩, 0, 0, false)) (by simp [results, Try.results23, go_sem, tupR]) rfl ⟨by rw [HRR.out], ((B1.alloc B1.size _).trans (B2.mono (by have := B1.size; simp; omega))).alloc (by have := B1.size; have := B2.size; simp at *; omega) _⟩
  | some i =>
    obtain ⟨hi, hsp, _⟩ := firstH_lt _ _ _ hf
    rw [hf] at HSp hRR
    dsimp only at hRR
    obtain ⟨gn, gk, gj0, gj1, gi⟩ := allG_at K T J n hall i hi
    obtain ⟨e0, e1, e2, e3⟩ := at_spots K T J r n i hi
    have HS2 : Hid (∀ (v : Value) (w' : World), RowSV w' v n (atS0 (spotsL K T J r n)) (atS1 (spotsL K T J r n)) (atS2 (spotsL K T J r n)) (atS3 (spotsL K T J r n)) → Calls Try.prog 62 #[v, .int .i64 b] w' fun e w'' => e = .returned (.agg #[.string (K i), .int .i64 (offF T J r i), .int .i64 (fsz (kOf (T i)) (J i) r), .int .i64 (fstr (kOf (T i)) (J i) r)]) ∧ Below w'.heap.size w' w'') := fun v w' V => by
      rw [← e0, ← e1, ← e2, ← e3]
      exact HSp.out v w' V
    have HI : Hid (∀ (g cp : Nat) (w' : World), RowS w' g n (atS0 (spotsL K T J r n)) (atS1 (spotsL K T J r n)) (atS2 (spotsL K T J r n)) (atS3 (spotsL K T J r n)) → Calls Try.prog 63 #[.slice (some ⟨g, 0, none⟩) n cp, .agg #[.string (K i), .int .i64 (offF T J r i), .int .i64 (fsz (kOf (T i)) (J i) r), .int .i64 (fstr (kOf (T i)) (J i) r)]] w' fun e w'' => e = .returned (.int .i64 (i : Nat)) ∧ Below w'.heap.size w' w'') := fun g cp w' R => by
      have h := index63 n g cp i _ _ _ _ w' R n12 hi (fun j hj he => by
        rw [(at_spots K T J r n j (by omega)).1, e0] at he
        rw [Tk.isIn_true K (K i) j he i hj] at gi
        cases gi)
      rw [e0, e1, e2, e3] at h
      exact h
    have cb := cnt_bounds (kOf (T i)) (J i) gk gj0 gj1
    have wb := w_bounds (kOf (T i)) gk
    have oe := off_end K T J r hr n hall n12 i hi
    have fb := f_bounds (kOf (T i)) (J i) r gk hr gj0 gj1
    have hb : offF T J r i ≤ b ∧ b < offF T J r i + fsz (kOf (T i)) (J i) r := by unfold inSpot at hsp; exact of_decide_eq_true hsp
    have nm := name_pos gn
    have H64 : Hid (∀ w, Calls Try.prog 64 #[.string (T i)] w fun e w' => e = .returned (.agg #[.int .i64 (cols (kOf (T i))), .int .i64 (nums (kOf (T i))), .int .i64 (wid (kOf (T i)))]) ∧ Below w.heap.size w w') := fun w => shape64 (T i) w
    have H65 : Hid (∀ w, Calls Try.prog 65 #[.agg #[.string (K i), .string (T i), .int .i64 (J i)], .int .i64 r] w fun e w' => ∃ v, e = .returned v ∧ RowI w' w.heap.size v (cntN (kOf (T i)) (J i)) (plc (kOf (T i)) (J i) r) ∧ Below w.heap.size w w') := fun w => places65 (K i) (T i) (J i) r w gk hr gj0 gj1
    have Hpl : Hid (∀ j, j < cntN (kOf (T i)) (J i) → 0 ≤ plc (kOf (T i)) (J i) r j ∧ plc (kOf (T i)) (J i) r j ≤ 8192) := fun j hj => by
      have p := plc_in (kOf (T i)) (J i) r gk hr gj0 gj1 j hj
      omega
    have Hin : Hid (∀ j, inNum T J r b i j = decide (offF T J r i + plc (kOf (T i)) (J i) r j ≤ b ∧ b < offF T J r i + plc (kOf (T i)) (J i) r j + wid (kOf (T i)))) := fun j => rfl
    have HRR : Hid ((match firstH (inNum T J r b i) (cntN (kOf (T i)) (J i)) with
      | none => (⟨#[]⟩, 0, 0, false)
      | some j => (K i, (j : Int), b - (offF T J r i + plc (kOf (T i)) (J i) r j), true)) = RR) := hRR
    clear hRR HSp e0 e1 e2 e3 gi hsp hf
    generalize inNum T J r b i = IN at *
    generalize offF T J r i = O at *
    generalize fsz (kOf (T i)) (J i) r = Z at *
    generalize fstr (kOf (T i)) (J i) r = S at *
    generalize plc (kOf (T i)) (J i) r = P at *
    generalize cntN (kOf (T i)) (J i) = CN at *
    generalize cols (kOf (T i)) = q1 at *
    generalize nums (kOf (T i)) = q2 at *
    generalize wid (kOf (T i)) = W at *
    have hf2 : ∀ w : World, (Instr.field 89 (.agg #[.int .i64 q1, .int .i64 q2, .int .i64 W]) 2).run Try.prog w = .ok (.int .i64 W) w := fun _ => by kernel_rfl
    have i1 : (i : Int) < (n : Int) := by omega
    have i0 : (0 : Int) ≤ (i : Int) := by omega
    have hOZ : O + Z ≤ 120000 := by omega
    have hO0 : 0 ≤ O := by omega
    clear oe fb
    go_enter Try.func23, Try.ntmps23
    go_wp2_with (first | (go_at_call 17; refine HLL.out.mono ?_; rintro e w1 ⟨v, rfl, V1, gv, B1⟩; (rw [spotsL_len] at V1); (obtain ⟨g, cp, rfl, RS⟩ : ∃ g cp, v = .slice (some ⟨g, 0, none⟩) n cp ∧ RowS w1 g n (atS0 (spotsL K T J r n)) (atS1 (spotsL K T J r n)) (atS2 (spotsL K T J r n)) (atS3 (spotsL K T J r n)) := V1.resolve_left (fun h => by omega)); (have R1 : Hid (_) := RS.next (alloc_b (o := .cells #[.slice (some ⟨g, 0, none⟩) n cp, .int .i64 SZ, .int .i64 AL] 34))); (have Y10 := C3.new w1 (.slice (some ⟨g, 0, none⟩) n cp) (.int .i64 SZ) (.int .i64 AL) 34); (have X1 : Hid (Row3 _ a n K T J) := (X.next B1).next (alloc_b (o := .cells #[.slice (some ⟨g, 0, none⟩) n cp, .int .i64 SZ, .int .i64 AL] 34)))) | (go_at_call 62; refine (HS2.out _ _ (Or.inr ⟨g, cp, rfl, R1.out⟩)).mono ?_; rintro e w2 ⟨rfl, B2⟩; (have l2 := B2.size); (rw [World.size_alloc] at l2); (have Y12 := C4.new w2 (.string (K i)) (.int .i64 O) (.int .i64 Z) (.int .i64 S) 76); (have R2 : Hid (_) := (R1.out.next B2).next (alloc_b (o := .cells #[.string (K i), .int .i64 O, .int .i64 Z, .int .i64 S] 76))); (have X2 : Hid (Row3 _ a n K T J) := (X1.out.next B2).next (alloc_b (o := .cells #[.string (K i), .int .i64 O, .int .i64 Z, .int .i64 S] 76))); (have p0 := (Y10.next B2).c0); (have hl10 : w1.heap.size < w2.heap.size := by omega)) | (go_at_call 63; refine (HI.out g cp _ R2.out).mono ?_; rintro e w3 ⟨rfl, B3⟩; (have X3 := X2.out.next B3); (have c0 := X3.k i hi); (have c1 := X3.t i hi); (have c2 := X3.j i hi); (have Y12b := Y12.next B3)) | (go_at_call 64; refine (H64.out _).mono ?_; rintro e w4 ⟨rfl, B4⟩; (obtain ⟨d0, d1, d2, _, _, _, _⟩ := (C3.new w3 (.string (K i)) (.string (T i)) (.int .i64 (J i)) 61).next B4)) | (go_at_call 65; refine (H65.out _).mono ?_; rintro e w5 ⟨vv, rfl, RI, B5⟩; (obtain ⟨g2, cp2, rfl, hg2, hg3⟩ := World.ownsRow.form RI (by omega)); (have Z12 := ((Y12b.next (alloc_b (o := .cells #[.string (K i), .string (T i), .int .i64 (J i)] 61))).next B4).next B5)))
    have OW := Tk.own_owned RI (fun j => .int .i64 (P j)) (fun j hj => by simp [hj])
    have HC : Hid (∀ j, j < CN → w5.cell? ⟨g2, j, none⟩ = some (.int .i64 (P j))) := OW.cell
    have z1 := B1.size
    have z2 := B2.size
    have z3 := B3.size
    have z4 := B4.size
    simp only [World.size_alloc] at z2 z3 z4
    have HB : Hid (Below w.heap.size w w5) := by
      have b1 := (B1.alloc z1 (.cells #[.slice (some ⟨g, 0, none⟩) n cp, .int .i64 SZ, .int .i64 AL] 34)).trans (B2.mono (by simp; omega))
      have b2 := (b1.alloc b1.size (.cells #[.string (K i), .int .i64 O, .int .i64 Z, .int .i64 S] 76)).trans (B3.mono (by simp; omega))
      have b3 := (b2.alloc b2.size (.cells #[.string (K i), .string (T i), .int .i64 (J i)] 61)).trans (B4.mono (by simp; omega))
      exact b3.trans (B5.mono b3.size)
    obtain ⟨y0, y1, y2, y3, _, _, _, _, _⟩ := Z12
    clear OW RI B1 B2 B3 B4 B5 z1 z2 z3 z4 c0 c1 c2 d0 d1 d2 p0 Y10 Y12 Y12b hf2 nm l2 X3
    go_loop [46] (fun iv => ∃ m : Nat, m ≤ CN ∧ iv = .int .i64 m ∧ Hid (∀ j, j < m → IN j = false)) (fun iv => CN - (intOf iv).toNat)
    case atStart => exact ⟨0, by omega, rfl, fun j hj => by omega⟩
    case round =>
      obtain ⟨m, hm, rfl, HM⟩ := hrel
      by_cases hmn : m < CN
      · have m1 : (m : Int) < (CN : Int) := by omega
        have m0 : (0 : Int) ≤ (m : Int) := by omega
        have pb := Hpl.out m hmn
        have v0 := HC.out m hmn
        have hin := Hin.out m
        obtain ⟨p, hp⟩ : ∃ p, P m = p := ⟨_, rfl⟩
        rw [hp] at pb v0 hin
        have HP : Hid (P m = p) := hp
        clear hp
        by_cases h1 : 0 ≤ b - O - p
        · by_cases h2 : b - O - p < W
          · have hres : Hid (RR = (K i, (m : Int), b - O - p, true)) := by
              show _ = _
              rw [← HRR.out, firstH_some IN m HM.out (by rw [hin]; exact decide_eq_true (by omega)) CN hmn]
              dsimp only
              rw [HP.out]
              congr 3
              omega
            clear hin HRR
            go_wp2
            exact bodyPost_ret (v := tupR (K i, (m : Int), b - O - p, true)) (by simp [results, Try.results23, go_sem, tupR]) rfl ⟨by rw [hres.out], HB.out⟩
          · have HM2 : Hid (∀ j, j < m + 1 → IN j = false) := fun j hj => by
              by_cases e : j = m
              · subst e; rw [hin]; exact decide_eq_false (by omega)
              · exact HM.out j (by omega)
            clear hin
            go_wp2
            go_round
            case rel => exact ⟨m + 1, by omega, by go_num, HM2⟩
            case measure => simp [intOf]; omega
        · have HM2 : Hid (∀ j, j < m + 1 → IN j = false) := fun j hj => by
            by_cases e : j = m
            · subst e; rw [hin]; exact decide_eq_false (by omega)
            · exact HM.out j (by omega)
          clear hin
          go_wp2
          go_round
          case rel => exact ⟨m + 1, by omega, by go_num, HM2⟩
          case measure => simp [intOf]; omega
      · have hmm : m = CN := by omega
        have m1 : ¬ (m : Int) < (CN : Int) := by omega
        have hres : Hid (RR = (⟨#[]⟩, 0, 0, false)) := by
          show _ = _
          rw [← HRR.out, firstH_none IN CN (fun j hj => HM.out j (by omega))]
        clear hmm HRR
        go_wp2
        exact bodyPost_ret (v := tupR (⟨#[]⟩, 0, 0, false)) (by simp [results, Try.results23, go_sem, tupR]) rfl ⟨by rw [hres.out], HB.out⟩
end Go.Proofs.Yteakeaclpcgopaa
