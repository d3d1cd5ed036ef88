/- The model's l14Cycles and CyclesOf. -/
import Derived.Test.YtcgapochcahknaaDoorMal
namespace Go.Proofs.YtcgapochcahknaaDoor
open Go.ChangeShapes Go.WideShapes Go.ChangeAt Go.RowKit
set_option linter.unusedVariables false
/-- How late j is issued by what it needs of the first q that stand in its list. -/
def Rc.tq (c : Rc) (J : Nat → Nat) (j : Nat) (b : Nat) : Nat → Nat := mx (fun i => if c.nd i j then J i + c.rw.wt i j else 0) b
/-- A list of numbers below a bound, rising: the numbers below m that are in it. -/
theorem whL_getD (Z : Nat → Bool) : ∀ (n q : Nat), q < (whL Z n).length → ∃ i : Nat, (whL Z n).getD q 0 = (i : Int) ∧ i < n ∧ Z i = true ∧ (whL Z i).length = q
  | 0, q, h => absurd h (Nat.not_lt_zero _)
  | n + 1, q, h => by
    rw [whL] at h ⊢
    by_cases e : q < (whL Z n).length
    · obtain ⟨i, h1, h2, h3, h4⟩ := whL_getD Z n q e
      exact ⟨i, by rw [← h1]; simp [List.getD, List.getElem?_append_left e], by omega, h3, h4⟩
    · cases hz : Z n
      · rw [hz] at h; simp at h; omega
      · rw [hz] at h
        simp at h
        obtain rfl : q = (whL Z n).length := by omega
        exact ⟨n, by simp [List.getD], by omega, hz, rfl⟩
/-- Those between that are not in the list add nothing. -/
theorem mx_skip (f : Nat → Nat) (b : Nat) : ∀ n i, i ≤ n → (∀ x, i ≤ x → x < n → f x = 0) → mx f b n = mx f b i
  | 0, i, h, _ => by obtain rfl : i = 0 := by omega
                     rfl
  | n + 1, i, h, hz => by
    by_cases e : i = n + 1
    · subst e; rfl
    · rw [mx, hz n (by omega) (by omega), mx_skip f b n i (by omega) (fun x h1 h2 => hz x h1 (by omega))]
      omega
theorem whL_gap (Z : Nat → Bool) : ∀ (n i : Nat), i ≤ n → (whL Z i).length = (whL Z n).length → ∀ x, i ≤ x → x < n → Z x = false
  | 0, i, h, _, x, h1, h2 => by omega
  | n + 1, i, h, hl, x, h1, h2 => by
    by_cases e : i = n + 1
    · omega
    · have mono : ∀ m, i ≤ m → (whL Z i).length ≤ (whL Z m).length := fun m => by
        induction m with
        | zero => intro h; obtain rfl : i = 0 := by omega
                  exact Nat.le_refl _
        | succ m ih =>
          intro h
          by_cases e : i = m + 1
          · subst e; exact Nat.le_refl _
          · have := ih (by omega); rw [whL, List.length_append]; omega
      have h3 := mono n (by omega)
      rw [whL, List.length_append] at hl
      cases hz : Z n
      · rw [hz] at hl
        simp at hl
        by_cases e2 : x = n
        · subst e2; exact hz
        · exact whL_gap Z n i (by omega) hl x h1 (by omega)
      · rw [hz] at hl; simp at hl; omega
theorem Rc.wa_pos' (c : Rc) (k j : Nat) : 1 ≤ c.wa k j ∧ c.wa k j ≤ 8 := by
  unfold Rc.wa waI
  split
  · exact latV_bd _ _
  · decide
theorem Mq.only {B p : Nat} {w w' : World} {q n j : Nat} {L : Nat → List Int} (h : Mq B w q n j L) (on : Only p w w') (hp : p < B) (hq : p ≠ q) : Mq B w' q n j L := by
  have kc : ∀ i, w'.cell? ⟨q, i, none⟩ = w.cell? ⟨q, i, none⟩ := fun i => World.cell?_of_block (w := w) (a := ⟨q, i, none⟩) (on.block q h.hq (fun e => hq e.symm))
  refine ⟨fun i hi => ?_, fun x y u v g hx hy h1 h2 => ?_, fun i h1 h2 => (kc i).trans (h.nil i h1 h2), fun i => (World.frozen?_of_block (w := w) (a := ⟨q, i, none⟩) (on.block q h.hq (fun e => hq e.symm))).trans (h.fr i), Nat.lt_of_lt_of_le h.hq on.size, h.hB⟩
  · obtain ⟨u, h1, h2⟩ := h.row i hi
    exact ⟨u, (kc i).trans h1, h2.but' on hp⟩
  · rw [kc] at h1 h2
    exact h.ap x y u v g hx hy h1 h2
/-- One of the list more. -/
theorem tq_step (c : Rc) (J : Nat → Nat) (j Bt m i q : Nat) (hm : (whL (fun i => c.nd i j) m).length = q) (hi : (whL (fun i => c.nd i j) i).length = q) (hz : c.nd i j = true) : c.tq J j Bt (i + 1) = max (c.tq J j Bt m) (J i + c.rw.wt i j) := by
  have mi : m ≤ i := by
    rcases Nat.lt_or_ge i m with h | h
    · exfalso
      have := whL_gap (fun i => c.nd i j) m i (by omega) (by rw [hi, hm]) i (Nat.le_refl _) h
      have h2 : c.nd i j = false := this
      rw [hz] at h2
      exact absurd h2 (by decide)
    · exact h
  have gap := whL_gap (fun i => c.nd i j) i m mi (by rw [hm, hi])
  have e : c.tq J j Bt i = c.tq J j Bt m := mx_skip _ _ _ _ mi (fun x h1 h2 => by
    have h3 : c.nd x j = false := gap x h1 h2
    show (if c.nd x j then _ else _) = _
    rw [h3]; rfl)
  show max (c.tq J j Bt i) (if c.nd i j then J i + c.rw.wt i j else 0) = _
  rw [e, hz]
  rfl
theorem tq_end (c : Rc) (J : Nat → Nat) (j Bt m : Nat) (hmj : m ≤ j) (hm : (whL (fun i => c.nd i j) m).length = (whL (fun i => c.nd i j) j).length) : c.tq J j Bt j = c.tq J j Bt m :=
  mx_skip _ _ _ _ hmj (fun x h1 h2 => by
    have h3 : c.nd x j = false := whL_gap (fun i => c.nd i j) j m hmj hm x h1 h2
    show (if c.nd x j then _ else _) = _
    rw [h3]; rfl)
theorem tq_le (c : Rc) (J : Nat → Nat) (j Bt : Nat) {m n : Nat} (h : m ≤ n) : c.tq J j Bt m ≤ c.tq J j Bt n := by
  induction n with
  | zero => obtain rfl : m = 0 := by omega
            exact Nat.le_refl _
  | succ n ih =>
    by_cases e : m = n + 1
    · subst e; exact Nat.le_refl _
    · have := ih (by omega)
      show _ ≤ max (c.tq J j Bt n) _
      omega
set_option maxRecDepth 100000 in
set_option maxHeartbeats 16000000 in
theorem mcycles (b off cap : Nat) (c : Rc) (w : World) (R : Ir w b off c) (hX : c.wd) (hr : c.row = true) : Calls Tryd.prog 48 #[.slice (some ⟨b, off, none⟩) c.n cap] w fun e w' => e = .returned (.int .i64 ((c.rw.cM id c.n).2 : Int)) ∧ Below w.heap.size w w' := by
  obtain ⟨i3, hi3, hz30, hz31, hz32⟩ := info_parts info3
  have HR := Hid.mk R
  have HGI : Hid (∀ k, k < c.n → GI (c.O k) (c.D k) (c.A k) (c.B k) (c.C k) (c.X k)) := fun k hk => (Rc.row_g hr hX k hk).1
  have H45 : Hid (∀ v, Below w.heap.size w v → Calls Tryd.prog 45 #[.slice (some ⟨b, off, none⟩) c.n cap] v fun e w' => ∃ q, e = .returned (.slice (some ⟨q, 0, none⟩) c.n c.n) ∧ Mq (q + 1) w' q c.n c.n c.nl ∧ v.heap.size ≤ q ∧ Below v.heap.size v w') := fun v k => mall b off cap c v (R.next k) hX hr
  have hn := (Rc.row_n hr).2
  have HLE : Hid (∀ k, (∀ i, (c.rw.cM id k).1 i ≤ 9 * k) ∧ (c.rw.cM id k).2 ≤ 9 * k + 8) := Rw.cM_le c.ok id
  obtain ⟨n, hn2⟩ : ∃ n, c.n = n := ⟨_, rfl⟩
  have HN : Hid (c.n = n) := hn2
  rw [hn2] at hn H45 ⊢
  clear hn2 R hX hr
  go_enter Tryd.func48, Tryd.ntmps48
  go_wp2_with (first | (at_make; refine wpList_make_full _ rfl _ _ 45 rfl w.heap.size 3 i3 (.int .i64 0) 1 Tryd.underlying45 hi3 hz30 hz31 _ _ _ _ n rfl rfl (by first | rfl | omega) (by first | rfl | omega) (by rw [hz32]; omega) (by unfold maxLen; omega) (by simp) ?_; intro w2 hown2 hgrow2; (have O2 : Own w2 w.heap.size n (fun _ => .int .i64 0) := own_made hown2); (have B2 : Below w.heap.size w w2 := (Below.refl _ _).grown hgrow2 (Nat.le_refl _) (by simp))) | (go_at_call 45; refine (H45.out w2 B2).mono ?_; rintro e w3 ⟨q, rfl, M3, hq, B3⟩))
  obtain ⟨s, hs⟩ : ∃ s, w.heap.size = s := ⟨_, rfl⟩
  have HS : Hid (w.heap.size = s) := hs
  have O3 : Hid (Own w3 s n (fun i => .int .i64 ((c.rw.cM id 0).1 i : Int))) := by show Own _ _ _ _; rw [← hs]; exact (O2.next B3).mono (Nat.le_refl _) (fun i _ => rfl)
  have B03 : Hid (Below w.heap.size w w3) := B2.trans (B3.mono B2.size)
  have M3h : Hid (Mq (q + 1) w3 q n n c.nl) := M3
  have HSQ : Hid (s < q) := by have := O2.hi; show _ < _; omega
  have E0 : Hid ((c.rw.cM id 0).2 = 0) := rfl
  rw [hs]
  clear hs O2 B2 B3 M3 hq hown2 hgrow2 H45
  go_wp2
  go_loopw [4, 17] (fun ev i wr => ∃ j : Nat, j ≤ n ∧ i = .int .i64 j ∧ ev = .int .i64 ((c.rw.cM id j).2 : Int) ∧ Hid (Own wr s n (fun i => .int .i64 ((c.rw.cM id j).1 i : Int))) ∧ Hid (Mq (q + 1) wr q n n c.nl) ∧ Hid (Below w.heap.size w wr)) (fun _ i _ => n - (intOf i).toNat)
  case atStart => exact ⟨0, Nat.zero_le _, rfl, rfl, O3, M3h, B03⟩
  case round =>
    obtain ⟨j, hj, rfl, rfl, HO, HM, HB⟩ := hrel
    clear O3 M3h B03
    by_cases hjn : j < n
    · have j1 : (j : Int) < (n : Int) := by omega
      have j0 : (0 : Int) ≤ (j : Int) := by omega
      have hjc : j < c.n := by rw [HN.out]; exact hjn
      obtain ⟨v, c1, IV⟩ := HM.out.row j hjn
      obtain ⟨ad, cp, rfl, hcell⟩ := IV.arow
      have HCl := Hid.mk hcell
      have HLn : Hid ((c.nl j).length ≤ j) := c.nl_len j
      have HLt : Hid (∀ i, (c.rw.cM id j).1 i ≤ 9 * j) := (HLE.out j).1
      have HLs : Hid ((c.rw.cM id j).2 ≤ 9 * j + 8) := (HLE.out j).2
      have hE : (c.rw.cM id j).2 ≤ 600 := by have := HLs.out; omega
      have HST : Hid ((c.rw.cM id (j + 1)).1 = upN (c.rw.cM id j).1 j (c.tq (c.rw.cM id j).1 j (if j = 0 then 0 else (c.rw.cM id j).1 (j - 1) + 1) j) ∧ (c.rw.cM id (j + 1)).2 = max (c.rw.cM id j).2 (c.tq (c.rw.cM id j).1 j (if j = 0 then 0 else (c.rw.cM id j).1 (j - 1) + 1) j + c.rw.lat j)) := ⟨rfl, rfl⟩
      generalize hEE : (c.rw.cM id j).2 = E at hE HST
      generalize hJJ : (c.rw.cM id j).1 = J at HO HLt HST
      have HLE1 := (HLE.out (j + 1)).2
      clear hEE hJJ IV hcell HLs
      have hTB : c.tq J j (if j = 0 then 0 else J (j - 1) + 1) j + c.rw.lat j ≤ 600 := by have h1 := HST.out.2; omega
      have HLA : Hid (c.la j = (c.rw.lat j : Int)) := c.la_rw j
      have hl1 := c.la_bd j
      have h39 := fun v => mlat (c.O j) (c.D j) (c.A j) (c.B j) (c.C j) (c.X j) v (HGI.out j hjc).1.1 (HGI.out j hjc).1.2 (HGI.out j hjc).h3
      have h39 : ∀ v, Calls Tryd.prog 39 #[.agg #[.int .i64 (c.O j), .int .i64 (c.D j), .int .i64 (c.A j), .int .i64 (c.B j), .int .i64 (c.C j), .int .u32 (c.X j)]] v fun e w' => e = .returned (.int .i64 (c.la j)) ∧ Below v.heap.size v w' := h39
      obtain ⟨Bt, hBt⟩ : ∃ Bt, (if j = 0 then 0 else J (j - 1) + 1) = Bt := ⟨_, rfl⟩
      have HBt : Hid ((if j = 0 then 0 else J (j - 1) + 1) = Bt) := hBt
      rw [hBt] at HST hTB
      clear hBt
      by_cases jz : j = 0
      · have HT0 : Hid (Bt = 0) := by have := HBt.out; rw [if_pos jz] at this; exact this.symm
        subst jz
        have z0 : ¬ (0 : Int) < ((0 : Nat) : Int) := by omega
        go_wp2
        have HIR0 := Hid.mk (HR.out.next HB.out)
        have M0 : Hid (0 ≤ 0 ∧ (whL (fun i => c.nd i (0)) 0).length = 0) := ⟨Nat.zero_le _, rfl⟩
        have HTI : Hid ((c.tq J (0) Bt 0 : Nat) = Bt) := rfl
        obtain ⟨W0, hW0⟩ : ∃ W0, wr = W0 := ⟨_, rfl⟩
        rw [hW0] at HO HM HB HIR0 HCl ⊢
        obtain ⟨ln, hln⟩ : ∃ ln, (c.nl (0)).length = ln := ⟨_, rfl⟩
        have HLN : Hid ((c.nl (0)).length = ln) := hln
        rw [hln]
        have hl9 : ln ≤ 64 := by have := HLn.out; omega
        clear hW0 hln c1
        go_loopw [7, 32] (fun tv i wx => ∃ (q m : Nat), q ≤ ln ∧ i = .int .i64 q ∧ tv = .int .i64 ((c.tq J (0) Bt m : Nat) : Int) ∧ Hid (m ≤ 0 ∧ (whL (fun i => c.nd i (0)) m).length = q) ∧ Hid (Below W0.heap.size W0 wx)) (fun _ i _ => ln - (intOf i).toNat)
        case atStart => exact ⟨0, 0, Nat.zero_le _, rfl, by rw [HTI.out, HT0.out]; rfl, M0, Below.refl _ _⟩
        case round =>
          obtain ⟨q, m, hq, rfl, rfl, HMM, HBX⟩ := hrel
          clear M0
          by_cases hqn : q < ln
          · exact absurd hqn (by have h0 : ln = 0 := HLN.out.symm; omega)
          · obtain rfl : ln = q := by omega
            have q1 : ¬ (ln : Int) < (ln : Int) := by omega
            have HTE : Hid (c.tq J (0) Bt (0) = c.tq J (0) Bt m) := tq_end c J (0) Bt m HMM.out.1 (by rw [HMM.out.2]; exact HLN.out.symm)
            have OX := HO.out.next HBX.out
            have MX := HM.out.next HBX.out
            have BX := HB.out.trans (HBX.out.mono HB.out.size)
            have HIR := Hid.mk (HIR0.out.next HBX.out)
            rw [← HTE.out]
            clear HTE HO HM HB HBX HMM
            obtain ⟨TT, hTT⟩ : ∃ TT, c.tq J (0) Bt (0) = TT := ⟨_, rfl⟩
            rw [hTT] at HST hTB ⊢
            clear hTT
            have fs := OX.free (0)
            have cs := OX.cell (0) (by omega)
            have ON : Only s wr (wr.setCell ⟨s, 0, none⟩ (.int .i64 (TT : Int))) := (Only.refl _ _).setCell _ _
            have OS : Hid (Own (wr.setCell ⟨s, 0, none⟩ (.int .i64 (TT : Int))) s n (fun i => .int .i64 ((c.rw.cM id (0 + 1)).1 i : Int))) := by
              show Own _ _ _ _
              rw [HST.out.1]
              refine OX.set (0) _ (by omega) (fun i hi => ?_)
              unfold upN
              by_cases e : i = 0
              · rw [if_pos e, if_pos e]
              · rw [if_neg e, if_neg e]
            have MS : Hid (Mq (q + 1) (wr.setCell ⟨s, 0, none⟩ (.int .i64 (TT : Int))) q n n c.nl) := MX.only ON (by have := HSQ.out; omega) (by have := HSQ.out; omega)
            have BS : Hid (Below w.heap.size w (wr.setCell ⟨s, 0, none⟩ (.int .i64 (TT : Int)))) := BX.trans (ON.below (by have := HS.out; omega) BX.size)
            have HIS := Hid.mk (HR.out.next BS.out)
            have g0 := HIS.out.c0 (0) hjc
            have g1 := HIS.out.c1 (0) hjc
            have g2 := HIS.out.c2 (0) hjc
            have g3 := HIS.out.c3 (0) hjc
            have g4 := HIS.out.c4 (0) hjc
            have g5 := HIS.out.c5 (0) hjc
            simp only [Nat.zero_mul, Nat.add_zero] at g0 g1 g2 g3 g4 g5
            have bb : Below (wr.setCell ⟨s, 0, none⟩ (.int .i64 (TT : Int))).heap.size (wr.setCell ⟨s, 0, none⟩ (.int .i64 (TT : Int))) (wr.setCell ⟨s, 0, none⟩ (.int .i64 (TT : Int))) := Below.refl _ _
            have hE2 := HST.out.2
            have HV : Hid ((c.rw.cM id (0 + 1)).2 = max E (TT + c.rw.lat (0))) := hE2
            have HLa := HLA
            obtain ⟨la, hla⟩ : ∃ la : Int, c.la (0) = la := ⟨_, rfl⟩
            have HLa : Hid (la = (c.rw.lat (0) : Int)) := by have := HLA.out; show _ = _; omega
            rw [hla] at h39 hl1
            clear hE2 hla OX MX BX ON HIS HIR
            by_cases hgt : (E : Int) < (TT : Int) + la
            · have HVE : Hid ((((c.rw.cM id (0 + 1)).2 : Nat) : Int) = (TT : Int) + la) := by have := HV.out; have := HLa.out; show _ = _; omega
              go_wp2_with (go_at_call 39; refine (h39 _).mono ?_; rintro e w5 ⟨rfl, B5⟩; (replace bb := bb.trans (B5.mono bb.size)); (replace g0 := cell_nx g0 B5); (replace g1 := cell_nx g1 B5); (replace g2 := cell_nx g2 B5); (replace g3 := cell_nx g3 B5); (replace g4 := cell_nx g4 B5); (replace g5 := cell_nx g5 B5); clear B5)
              have OF := OS.out.next bb
              have MF := MS.out.next bb
              have BF := BS.out.trans (bb.mono BS.out.size)
              go_roundw
              case rel => exact ⟨0 + 1, by omega, by go_num, by rw [HVE.out], OF, MF, BF⟩
              case measure => simp [intOf]; omega
            · have HVE : Hid ((((c.rw.cM id (0 + 1)).2 : Nat) : Int) = (E : Int)) := by have := HV.out; have := HLa.out; show _ = _; omega
              go_wp2_with (go_at_call 39; refine (h39 _).mono ?_; rintro e w5 ⟨rfl, B5⟩; (replace bb := bb.trans (B5.mono bb.size)); (replace g0 := cell_nx g0 B5); (replace g1 := cell_nx g1 B5); (replace g2 := cell_nx g2 B5); (replace g3 := cell_nx g3 B5); (replace g4 := cell_nx g4 B5); (replace g5 := cell_nx g5 B5); clear B5)
              have OF := OS.out.next bb
              have MF := MS.out.next bb
              have BF := BS.out.trans (bb.mono BS.out.size)
              go_roundw
              case rel => exact ⟨0 + 1, by omega, by go_num, by rw [HVE.out], OF, MF, BF⟩
              case measure => simp [intOf]; omega
      · have HT0 : Hid (Bt = J (j - 1) + 1) := by have := HBt.out; rw [if_neg jz] at this; exact this.symm
        have z0 : (0 : Int) < (j : Int) := by omega
        have cj0 := HO.out.cell (j - 1) (by omega)
        have cj' : wr.cell? ⟨s, j - 1, none⟩ = some (.int .i64 ((J (j - 1) : Nat) : Int)) := cj0
        have hJ' := HLt.out (j - 1)
        have q0 : (0 : Int) ≤ (j : Int) - 1 := by omega
        have q1 : (j : Int) - 1 < (n : Int) := by omega
        generalize J (j - 1) = Jp at cj' hJ' HT0
        clear cj0
        clear jz
        go_wp2
        have HIR0 := Hid.mk (HR.out.next HB.out)
        have M0 : Hid (0 ≤ j ∧ (whL (fun i => c.nd i (j)) 0).length = 0) := ⟨Nat.zero_le _, rfl⟩
        have HTI : Hid ((c.tq J (j) Bt 0 : Nat) = Bt) := rfl
        obtain ⟨W0, hW0⟩ : ∃ W0, wr = W0 := ⟨_, rfl⟩
        rw [hW0] at HO HM HB HIR0 HCl ⊢
        obtain ⟨ln, hln⟩ : ∃ ln, (c.nl (j)).length = ln := ⟨_, rfl⟩
        have HLN : Hid ((c.nl (j)).length = ln) := hln
        rw [hln]
        have hl9 : ln ≤ 64 := by have := HLn.out; omega
        clear hW0 hln c1
        go_loopw [7, 32] (fun tv i wx => ∃ (q m : Nat), q ≤ ln ∧ i = .int .i64 q ∧ tv = .int .i64 ((c.tq J (j) Bt m : Nat) : Int) ∧ Hid (m ≤ j ∧ (whL (fun i => c.nd i (j)) m).length = q) ∧ Hid (Below W0.heap.size W0 wx)) (fun _ i _ => ln - (intOf i).toNat)
        case atStart => exact ⟨0, 0, Nat.zero_le _, rfl, by rw [HTI.out, HT0.out]; first | rfl | simp, M0, Below.refl _ _⟩
        case round =>
          obtain ⟨q, m, hq, rfl, rfl, HMM, HBX⟩ := hrel
          clear M0
          by_cases hqn : q < ln
          · have q1 : (q : Int) < (ln : Int) := by omega
            have q0 : (0 : Int) ≤ (q : Int) := by omega
            have hql : q < (c.nl (j)).length := by rw [HLN.out]; exact hqn
            obtain ⟨i, hi1, hi2, hi3, hi4⟩ := whL_getD (fun i => c.nd i (j)) (j) q hql
            obtain ⟨gg, oo, rfl, ck0⟩ := HCl.out q hql
            have ck := cell_nx ck0 HBX.out
            have hi1' : (c.nl (j)).getD q 0 = (i : Int) := hi1
            rw [hi1'] at ck
            have HZ : Hid (c.nd i (j) = true) := hi3
            have HIQ : Hid ((whL (fun i => c.nd i (j)) i).length = q) := hi4
            have hic : i < c.n := by omega
            have i0 : (0 : Int) ≤ (i : Int) := by omega
            have in1 : (i : Int) < (n : Int) := by omega
            have HIR := Hid.mk (HIR0.out.next (below_drew HBX.out))
            have hJi := HLt.out i
            obtain ⟨ji, hji⟩ : ∃ ji : Int, ((J i : Nat) : Int) = ji := ⟨_, rfl⟩
            have HJI : Hid (((J i : Nat) : Int) = ji) := hji
            have HCS := (HO.out.next (below_drew HBX.out)).cell i (by omega)
            rw [hji] at HCS
            have hj0 : 0 ≤ ji ∧ ji ≤ 600 := by omega
            have hwb := c.wa_pos' i (j)
            have HWA : Hid (c.wa i (j) = (c.rw.wt i (j) : Int)) := c.wa_rw i (j)
            have hwr : IntKind.i64.wrap (ji + c.wa i (j)) = ji + c.wa i (j) := by simp [IntKind.wrap, IntKind.bits, IntKind.signed]; omega
            have h84 := fun v => mwait (c.O (i)) (c.D (i)) (c.A (i)) (c.B (i)) (c.C (i)) (c.X (i)) (c.O (j)) (c.D (j)) (c.A (j)) (c.B (j)) (c.C (j)) (c.X (j)) v (HGI.out i hic) (HGI.out (j) hjc)
            have h84 : ∀ v, Calls Tryd.prog 84 #[.agg #[.int .i64 (c.O i), .int .i64 (c.D i), .int .i64 (c.A i), .int .i64 (c.B i), .int .i64 (c.C i), .int .u32 (c.X i)], .agg #[.int .i64 (c.O (j)), .int .i64 (c.D (j)), .int .i64 (c.A (j)), .int .i64 (c.B (j)), .int .i64 (c.C (j)), .int .u32 (c.X (j))]] v fun e w' => e = .returned (.int .i64 (c.wa i (j))) ∧ Below v.heap.size v w' := h84
            have HTS : Hid (c.tq J (j) Bt (i + 1) = max (c.tq J (j) Bt m) (J i + c.rw.wt i (j))) := tq_step c J (j) Bt m i q HMM.out.2 hi4 hi3
            obtain ⟨tm, htm⟩ : ∃ tm : Int, ((c.tq J (j) Bt m : Nat) : Int) = tm := ⟨_, rfl⟩
            have HTM : Hid (((c.tq J (j) Bt m : Nat) : Int) = tm) := htm
            have HTS : Hid (((c.tq J (j) Bt (i + 1) : Nat) : Int) = max tm (((J i : Nat) : Int) + (c.rw.wt i (j) : Int))) := by have := HTS.out; have := HTM.out; show _ = _; omega
            rw [htm]
            clear htm hji ck0 hi1 hi1' hi3 hi4
            go_wp2
            generalize hWW : wr.drew = WX at HIR HCS
            have hH0 : Below WX.heap.size WX WX := Below.refl _ _
            refine wp_region_held_drew (S := fun v => Below WX.heap.size WX v) (by kernel_rfl) (by rw [hWW]; exact hH0) (fun hH => ?_)
            have HBX2 : Hid (Below W0.heap.size W0 WX) := by show Below _ _ _; rw [← hWW]; exact below_drew HBX.out
            rw [hWW] at hH ⊢
            have HBX := HBX2
            clear hWW hH0 HBX2
            refine wpAnyH_take (i := 0) (oi := { dst := some 36, op := Op.move (Operand.tmp 3), type := 45, pos := "l14_schedule.go:109", after := #[], guard := none }) (v := .slice (some ⟨s, 0, none⟩) n n) rfl (by kernel_rfl) (by kernel_rfl) (by kernel_rfl) (fun _ _ _ h => h) (Or.inl ⟨by rfl, fun w0 hSw => by (go_simp)⟩) hH ?_
            simp only [Act.put, List.setIfInBounds_toArray, List.set_cons_zero, List.set_cons_succ]
            refine wpAnyH_take (i := 1) (oi := { dst := some 37, op := Op.move (Operand.tmp 9), type := 3, pos := "l14_schedule.go:109", after := #[], guard := none }) (v := .int .i64 ((i : Nat) : Int)) rfl (by kernel_rfl) (by kernel_rfl) (by kernel_rfl) (fun _ _ _ h => h) (Or.inl ⟨by rfl, fun w0 hSw => by (go_simp)⟩) hH ?_
            simp only [Act.put, List.setIfInBounds_toArray, List.set_cons_zero, List.set_cons_succ]
            refine wpAnyH_take (i := 2) (oi := { dst := some 38, op := Op.indexAddr 45 (Operand.tmp 36) (Operand.tmp 37), type := 0, pos := "l14_schedule.go:109", after := #[{ on := 0, ground := Ground.data }, { on := 1, ground := Ground.data }], guard := none }) (v := .pointer (some ⟨s, i, none⟩)) rfl (by kernel_rfl) (by kernel_rfl) (by kernel_rfl) (fun _ _ _ h => h) (Or.inl ⟨by rfl, fun w0 hSw => by (go_simp)⟩) hH ?_
            simp only [Act.put, List.setIfInBounds_toArray, List.set_cons_zero, List.set_cons_succ]
            refine wpAnyH_take (i := 3) (oi := { dst := some 39, op := Op.load 3 (Operand.tmp 38), type := 3, pos := "l14_schedule.go:109", after := #[{ on := 2, ground := Ground.data }], guard := none }) (v := .int .i64 ji) rfl (by kernel_rfl) (by kernel_rfl) (by kernel_rfl) (fun _ _ _ h => h) (Or.inl ⟨by rfl, fun w0 hSw => by ((have cs := cell_nx HCS hSw); go_simp)⟩) hH ?_
            simp only [Act.put, List.setIfInBounds_toArray, List.set_cons_zero, List.set_cons_succ]
            refine wpAnyH_take (i := 4) (oi := { dst := some 40, op := Op.move (Operand.tmp 0), type := 24, pos := "l14_schedule.go:109", after := #[], guard := none }) (v := .slice (some ⟨b, off, none⟩) n cap) rfl (by kernel_rfl) (by kernel_rfl) (by kernel_rfl) (fun _ _ _ h => h) (Or.inl ⟨by rfl, fun w0 hSw => by (go_simp)⟩) hH ?_
            simp only [Act.put, List.setIfInBounds_toArray, List.set_cons_zero, List.set_cons_succ]
            refine wpAnyH_take (i := 5) (oi := { dst := some 41, op := Op.move (Operand.tmp 9), type := 3, pos := "l14_schedule.go:109", after := #[], guard := none }) (v := .int .i64 ((i : Nat) : Int)) rfl (by kernel_rfl) (by kernel_rfl) (by kernel_rfl) (fun _ _ _ h => h) (Or.inl ⟨by rfl, fun w0 hSw => by (go_simp)⟩) hH ?_
            simp only [Act.put, List.setIfInBounds_toArray, List.set_cons_zero, List.set_cons_succ]
            refine wpAnyH_take (i := 6) (oi := { dst := some 42, op := Op.indexAddr 24 (Operand.tmp 40) (Operand.tmp 41), type := 0, pos := "l14_schedule.go:109", after := #[{ on := 4, ground := Ground.data }, { on := 5, ground := Ground.data }], guard := none }) (v := .pointer (some ⟨b, off + i * 6, none⟩)) rfl (by kernel_rfl) (by kernel_rfl) (by kernel_rfl) (fun _ _ _ h => h) (Or.inl ⟨by rfl, fun w0 hSw => by (go_simp)⟩) hH ?_
            simp only [Act.put, List.setIfInBounds_toArray, List.set_cons_zero, List.set_cons_succ]
            refine wpAnyH_take (i := 7) (oi := { dst := some 43, op := Op.load 35 (Operand.tmp 42), type := 35, pos := "l14_schedule.go:109", after := #[{ on := 6, ground := Ground.data }], guard := none }) (v := .agg #[.int .i64 (c.O i), .int .i64 (c.D i), .int .i64 (c.A i), .int .i64 (c.B i), .int .i64 (c.C i), .int .u32 (c.X i)]) rfl (by kernel_rfl) (by kernel_rfl) (by kernel_rfl) (fun _ _ _ h => h) (Or.inl ⟨by rfl, fun w0 hSw => by ((have e0 := cell_nx (HIR.out.c0 i hic) hSw); (have e1 := cell_nx (HIR.out.c1 i hic) hSw); (have e2 := cell_nx (HIR.out.c2 i hic) hSw); (have e3 := cell_nx (HIR.out.c3 i hic) hSw); (have e4 := cell_nx (HIR.out.c4 i hic) hSw); (have e5 := cell_nx (HIR.out.c5 i hic) hSw); go_simp)⟩) hH ?_
            simp only [Act.put, List.setIfInBounds_toArray, List.set_cons_zero, List.set_cons_succ]
            refine wpAnyH_take (i := 8) (oi := { dst := some 44, op := Op.move (Operand.tmp 0), type := 24, pos := "l14_schedule.go:109", after := #[], guard := none }) (v := .slice (some ⟨b, off, none⟩) n cap) rfl (by kernel_rfl) (by kernel_rfl) (by kernel_rfl) (fun _ _ _ h => h) (Or.inl ⟨by rfl, fun w0 hSw => by (go_simp)⟩) hH ?_
            simp only [Act.put, List.setIfInBounds_toArray, List.set_cons_zero, List.set_cons_succ]
            refine wpAnyH_take (i := 9) (oi := { dst := some 45, op := Op.move (Operand.tmp 5), type := 3, pos := "l14_schedule.go:109", after := #[], guard := none }) (v := .int .i64 ((j : Nat) : Int)) rfl (by kernel_rfl) (by kernel_rfl) (by kernel_rfl) (fun _ _ _ h => h) (Or.inl ⟨by rfl, fun w0 hSw => by (go_simp)⟩) hH ?_
            simp only [Act.put, List.setIfInBounds_toArray, List.set_cons_zero, List.set_cons_succ]
            refine wpAnyH_take (i := 10) (oi := { dst := some 46, op := Op.indexAddr 24 (Operand.tmp 44) (Operand.tmp 45), type := 0, pos := "l14_schedule.go:109", after := #[{ on := 8, ground := Ground.data }, { on := 9, ground := Ground.data }], guard := none }) (v := .pointer (some ⟨b, off + (j) * 6, none⟩)) rfl (by kernel_rfl) (by kernel_rfl) (by kernel_rfl) (fun _ _ _ h => h) (Or.inl ⟨by rfl, fun w0 hSw => by (go_simp)⟩) hH ?_
            simp only [Act.put, List.setIfInBounds_toArray, List.set_cons_zero, List.set_cons_succ]
            refine wpAnyH_take (i := 11) (oi := { dst := some 47, op := Op.load 35 (Operand.tmp 46), type := 35, pos := "l14_schedule.go:109", after := #[{ on := 10, ground := Ground.data }], guard := none }) (v := .agg #[.int .i64 (c.O j), .int .i64 (c.D j), .int .i64 (c.A j), .int .i64 (c.B j), .int .i64 (c.C j), .int .u32 (c.X j)]) rfl (by kernel_rfl) (by kernel_rfl) (by kernel_rfl) (fun _ _ _ h => h) (Or.inl ⟨by rfl, fun w0 hSw => by ((have f0 := cell_nx (HIR.out.c0 (j) hjc) hSw); (have f1 := cell_nx (HIR.out.c1 (j) hjc) hSw); (have f2 := cell_nx (HIR.out.c2 (j) hjc) hSw); (have f3 := cell_nx (HIR.out.c3 (j) hjc) hSw); (have f4 := cell_nx (HIR.out.c4 (j) hjc) hSw); (have f5 := cell_nx (HIR.out.c5 (j) hjc) hSw); go_simp)⟩) hH ?_
            simp only [Act.put, List.setIfInBounds_toArray, List.set_cons_zero, List.set_cons_succ]
            refine wpAnyH_ready (rs := [12]) (by kernel_rfl) (by simp) ?_
            refine (AllReadyH.cons (o := { dst := some 48, op := Op.call { callee := Callee.value (Operand.func 84), args := #[Operand.tmp 43, Operand.tmp 47], argTypes := #[35, 35] }, type := 3, pos := "l14_schedule.go:109", after := #[{ on := 7, ground := Ground.data }, { on := 11, ground := Ground.data }], guard := none }) rfl (fun K hK => ?_) AllReadyH.nil)
            refine step_callC 84 #[.agg #[.int .i64 (c.O i), .int .i64 (c.D i), .int .i64 (c.A i), .int .i64 (c.B i), .int .i64 (c.C i), .int .u32 (c.X i)], .agg #[.int .i64 (c.O j), .int .i64 (c.D j), .int .i64 (c.A j), .int .i64 (c.B j), .int .i64 (c.C j), .int .u32 (c.X j)]] (fun z v w' => z = .int .i64 (c.wa i j) ∧ Below v.heap.size v w') (by rfl) (by go_simp) ((h84 _).mono fun e w' ⟨h1, h2⟩ => ⟨_, h1, rfl, h2⟩) ?_
            rintro z8 w8 ⟨rfl, B8⟩
            simp only [Act.put, List.setIfInBounds_toArray, List.set_cons_zero, List.set_cons_succ]
            refine hK.out _ _ (hH.trans (B8.mono hH.size)) (fun hH' => ?_)
            clear hK K
            replace hH := hH'
            clear hH' 
            refine wpAnyH_take (i := 13) (oi := { dst := some 49, op := Op.binOp BinOp.add 3 (Operand.tmp 39) (Operand.tmp 48) 3, type := 3, pos := "l14_schedule.go:109", after := #[{ on := 3, ground := Ground.data }, { on := 12, ground := Ground.data }], guard := none }) (v := .int .i64 (ji + c.wa i j)) rfl (by kernel_rfl) (by kernel_rfl) (by kernel_rfl) (fun _ _ _ h => h) (Or.inl ⟨by rfl, fun w0 hSw => by (go_simp)⟩) hH ?_
            simp only [Act.put, List.setIfInBounds_toArray, List.set_cons_zero, List.set_cons_succ]
            refine wpAnyH_take (i := 14) (oi := { dst := some 10, op := Op.assign (Operand.tmp 49), type := 3, pos := "l14_schedule.go:109", after := #[{ on := 13, ground := Ground.data }, { on := 12, ground := Ground.chain }, { on := 0, ground := Ground.phase }, { on := 1, ground := Ground.phase }, { on := 2, ground := Ground.phase }, { on := 3, ground := Ground.phase }, { on := 4, ground := Ground.phase }, { on := 5, ground := Ground.phase }, { on := 6, ground := Ground.phase }, { on := 7, ground := Ground.phase }, { on := 8, ground := Ground.phase }, { on := 9, ground := Ground.phase }, { on := 10, ground := Ground.phase }, { on := 11, ground := Ground.phase }, { on := 12, ground := Ground.phase }, { on := 13, ground := Ground.phase }], guard := none }) (v := .int .i64 (ji + c.wa i j)) rfl (by kernel_rfl) (by kernel_rfl) (by kernel_rfl) (fun _ _ _ h => h) (Or.inl ⟨by rfl, fun w0 hSw => by (go_simp)⟩) hH ?_
            simp only [Act.put, List.setIfInBounds_toArray, List.set_cons_zero, List.set_cons_succ]
            refine wpAnyH_done (by kernel_rfl) ?_ _
            by_cases hgt : tm < (ji + c.wa i (j))
            · have BN : Hid (Below W0.heap.size W0 w8) := HBX.out.trans (hH.mono HBX.out.size)
              have RN : Hid (((c.tq J (j) Bt (i + 1) : Nat) : Int) = (ji + c.wa i (j))) := by have := HTS.out; have := HJI.out; have := HWA.out; show _ = _; omega
              have MN : Hid (i + 1 ≤ j ∧ (whL (fun i => c.nd i (j)) (i + 1)).length = q + 1) := ⟨by omega, by rw [whL, List.length_append, HIQ.out, HZ.out]; rfl⟩
              clear hH HTS
              go_wp2
              go_roundw
              case rel => exact ⟨q + 1, i + 1, by omega, by go_num, by rw [RN.out], MN, BN⟩
              case measure => simp [intOf]; omega
            · have BN : Hid (Below W0.heap.size W0 w8) := HBX.out.trans (hH.mono HBX.out.size)
              have RN : Hid (((c.tq J (j) Bt (i + 1) : Nat) : Int) = tm) := by have := HTS.out; have := HJI.out; have := HWA.out; show _ = _; omega
              have MN : Hid (i + 1 ≤ j ∧ (whL (fun i => c.nd i (j)) (i + 1)).length = q + 1) := ⟨by omega, by rw [whL, List.length_append, HIQ.out, HZ.out]; rfl⟩
              clear hH HTS
              go_wp2
              go_roundw
              case rel => exact ⟨q + 1, i + 1, by omega, by go_num, by rw [RN.out], MN, BN⟩
              case measure => simp [intOf]; omega
          · obtain rfl : ln = q := by omega
            have q1 : ¬ (ln : Int) < (ln : Int) := by omega
            have HTE : Hid (c.tq J (j) Bt (j) = c.tq J (j) Bt m) := tq_end c J (j) Bt m HMM.out.1 (by rw [HMM.out.2]; exact HLN.out.symm)
            have OX := HO.out.next HBX.out
            have MX := HM.out.next HBX.out
            have BX := HB.out.trans (HBX.out.mono HB.out.size)
            have HIR := Hid.mk (HIR0.out.next HBX.out)
            rw [← HTE.out]
            clear HTE HO HM HB HBX HMM
            obtain ⟨TT, hTT⟩ : ∃ TT, c.tq J (j) Bt (j) = TT := ⟨_, rfl⟩
            rw [hTT] at HST hTB ⊢
            clear hTT
            have fs := OX.free (j)
            have cs := OX.cell (j) (by omega)
            have ON : Only s wr (wr.setCell ⟨s, j, none⟩ (.int .i64 (TT : Int))) := (Only.refl _ _).setCell _ _
            have OS : Hid (Own (wr.setCell ⟨s, j, none⟩ (.int .i64 (TT : Int))) s n (fun i => .int .i64 ((c.rw.cM id (j + 1)).1 i : Int))) := by
              show Own _ _ _ _
              rw [HST.out.1]
              refine OX.set (j) _ (by omega) (fun i hi => ?_)
              unfold upN
              by_cases e : i = j
              · rw [if_pos e, if_pos e]
              · rw [if_neg e, if_neg e]
            have MS : Hid (Mq (q + 1) (wr.setCell ⟨s, j, none⟩ (.int .i64 (TT : Int))) q n n c.nl) := MX.only ON (by have := HSQ.out; omega) (by have := HSQ.out; omega)
            have BS : Hid (Below w.heap.size w (wr.setCell ⟨s, j, none⟩ (.int .i64 (TT : Int)))) := BX.trans (ON.below (by have := HS.out; omega) BX.size)
            have HIS := Hid.mk (HR.out.next BS.out)
            have g0 := HIS.out.c0 (j) hjc
            have g1 := HIS.out.c1 (j) hjc
            have g2 := HIS.out.c2 (j) hjc
            have g3 := HIS.out.c3 (j) hjc
            have g4 := HIS.out.c4 (j) hjc
            have g5 := HIS.out.c5 (j) hjc
            have bb : Below (wr.setCell ⟨s, j, none⟩ (.int .i64 (TT : Int))).heap.size (wr.setCell ⟨s, j, none⟩ (.int .i64 (TT : Int))) (wr.setCell ⟨s, j, none⟩ (.int .i64 (TT : Int))) := Below.refl _ _
            have hE2 := HST.out.2
            have HV : Hid ((c.rw.cM id (j + 1)).2 = max E (TT + c.rw.lat (j))) := hE2
            have HLa := HLA
            obtain ⟨la, hla⟩ : ∃ la : Int, c.la (j) = la := ⟨_, rfl⟩
            have HLa : Hid (la = (c.rw.lat (j) : Int)) := by have := HLA.out; show _ = _; omega
            rw [hla] at h39 hl1
            clear hE2 hla OX MX BX ON HIS HIR
            by_cases hgt : (E : Int) < (TT : Int) + la
            · have HVE : Hid ((((c.rw.cM id (j + 1)).2 : Nat) : Int) = (TT : Int) + la) := by have := HV.out; have := HLa.out; show _ = _; omega
              go_wp2_with (go_at_call 39; refine (h39 _).mono ?_; rintro e w5 ⟨rfl, B5⟩; (replace bb := bb.trans (B5.mono bb.size)); (replace g0 := cell_nx g0 B5); (replace g1 := cell_nx g1 B5); (replace g2 := cell_nx g2 B5); (replace g3 := cell_nx g3 B5); (replace g4 := cell_nx g4 B5); (replace g5 := cell_nx g5 B5); clear B5)
              have OF := OS.out.next bb
              have MF := MS.out.next bb
              have BF := BS.out.trans (bb.mono BS.out.size)
              go_roundw
              case rel => exact ⟨j + 1, by omega, by go_num, by rw [HVE.out], OF, MF, BF⟩
              case measure => simp [intOf]; omega
            · have HVE : Hid ((((c.rw.cM id (j + 1)).2 : Nat) : Int) = (E : Int)) := by have := HV.out; have := HLa.out; show _ = _; omega
              go_wp2_with (go_at_call 39; refine (h39 _).mono ?_; rintro e w5 ⟨rfl, B5⟩; (replace bb := bb.trans (B5.mono bb.size)); (replace g0 := cell_nx g0 B5); (replace g1 := cell_nx g1 B5); (replace g2 := cell_nx g2 B5); (replace g3 := cell_nx g3 B5); (replace g4 := cell_nx g4 B5); (replace g5 := cell_nx g5 B5); clear B5)
              have OF := OS.out.next bb
              have MF := MS.out.next bb
              have BF := BS.out.trans (bb.mono BS.out.size)
              go_roundw
              case rel => exact ⟨j + 1, by omega, by go_num, by rw [HVE.out], OF, MF, BF⟩
              case measure => simp [intOf]; omega
    · obtain rfl : n = j := by omega
      have j1 : ¬ (n : Int) < (n : Int) := by omega
      go_wp2
      go_ret
      exact ⟨rfl, HB.out⟩
set_option maxRecDepth 100000 in
set_option maxHeartbeats 2000000 in
theorem mcyclesof (b off cap : Nat) (c : Rc) (w : World) (R : Ir w b off c) (hX : c.wd) (hn : c.n ≤ 1048576) : Calls Tryd.prog 24 #[.slice (some ⟨b, off, none⟩) c.n cap] w fun e w' => e = .returned (.tuple #[.int .i64 (if c.row then ((c.rw.cyc id : Nat) : Int) else 0), .bool c.row]) ∧ Below w.heap.size w w' := by
  have h44 := mrow b off cap c w R hX hn
  have H48 : Hid (c.row = true → ∀ v, Below w.heap.size w v → Calls Tryd.prog 48 #[.slice (some ⟨b, off, none⟩) c.n cap] v fun e w' => e = .returned (.int .i64 ((c.rw.cyc id : Nat) : Int)) ∧ Below v.heap.size v w') := fun hr v k => by
    have := mcycles b off cap c v (R.next k) hX hr
    rw [show (c.rw.cM id c.n).2 = c.rw.cyc id from Rw.cyc_eq c.ok c.rw.kp_id] at this
    exact this
  generalize c.rw.cyc id = z at H48 ⊢
  generalize c.row = r at h44 H48 ⊢
  clear R hX hn
  generalize c.n = n at h44 H48
  cases r
  · simp only [Bool.false_eq_true, if_false]
    go_enter Tryd.func24, Tryd.ntmps24
    go_wp2_with (go_at_call 44; refine h44.mono ?_; rintro e w1 ⟨rfl, B1⟩)
    go_ret2
    exact ⟨rfl, B1⟩
  · simp only [if_true]
    have h48 := H48.out rfl
    clear H48
    go_enter Tryd.func24, Tryd.ntmps24
    go_wp2_with (first | (go_at_call 44; refine h44.mono ?_; rintro e w1 ⟨rfl, B1⟩) | (go_at_call 48; refine (h48 _ B1).mono ?_; rintro e w2 ⟨rfl, B2⟩))
    go_ret2
    exact ⟨rfl, B1.trans (B2.mono B1.size)⟩
end Go.Proofs.YtcgapochcahknaaDoor
