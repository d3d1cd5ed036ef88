/- The model's l13Clashes. -/
import Derived.Test.YtmeokhppaekhpaaGreatDoorCln
import Derived.Test.YtmeokhppaekhpaaGreatDoorLvw
namespace Go.Proofs.YtmeokhppaekhpaaGreatDoor
open Go.ChangeShapes Go.WideShapes Go.ChangeAt Go.RowKit
set_option linter.unusedVariables false
set_option maxRecDepth 100000 in
set_option maxHeartbeats 16000000 in
theorem clashes45 (n a cap R : Nat) (c : Cd) (K : LvOk c R) (hD : ∀ k, k < n → nmd (c.O k) 0 = true → c.D k < R) (w : World) (hn : c.n = n) (RI : RowI w a n c.O c.D c.A c.B c.C c.X) (h62 : ∀ v, Below w.heap.size w v → Calls Tryz.prog 48 #[.slice (some ⟨a, 0, none⟩) n cap] v fun e w' => e = .returned (.int .i64 (R : Int)) ∧ Below v.heap.size v w') : Calls Tryz.prog 23 #[.slice (some ⟨a, 0, none⟩) n cap] w fun e w' => ∃ q p, e = .returned (.slice (some ⟨q, 0, none⟩) R R) ∧ Gr2 w' q R R p (clB c R n) ∧ Below w.heap.size w w' := by
  obtain ⟨i4, hi4, hz40, hz41, hz42⟩ := info_parts info4
  obtain ⟨i53, hi53, hz530, hz531, hz532⟩ := info_parts info53
  have n0 : 1 ≤ n := by rw [← hn]; exact K.n0
  have n1 : n ≤ 600 := by rw [← hn]; exact K.n1
  have r1 := K.r1
  have HR : Hid (RowI w a n c.O c.D c.A c.B c.C c.X) := RI
  have HK : Hid (LvOk c R) := K
  have HN : Hid (c.n = n) := hn
  have HD : Hid (∀ k, k < n → nmd (c.O k) 0 = true → c.D k < R) := hD
  have h62w := h62 w (Below.refl _ _)
  have H35 : Hid (∀ v, Below w.heap.size w v → Calls Tryz.prog 49 #[.slice (some ⟨a, 0, none⟩) n cap] v fun e w' => ∃ qb p0 pb, e = .returned (.tuple #[.slice (some ⟨qb, 0, none⟩) n n, .slice (some ⟨p0, 0, none⟩) R R]) ∧ Gr2 w' qb n R pb (lbB c) ∧ Own w' p0 R (fun r => .bool (laB c 0 r)) ∧ (v.heap.size ≤ qb ∧ v.heap.size ≤ p0 ∧ ∀ k, k < n → v.heap.size ≤ pb k) ∧ Below v.heap.size v w') := fun v b => live35 n a cap R c K v hn (RI.next b) (h62 v b)
  clear RI K hn hD h62
  go_enter Tryz.func23, Tryz.ntmps23
  go_wp2_with (first | (go_at_call 48; refine h62w.mono ?_; rintro e w1 ⟨rfl, B1⟩) | (at_make; refine wpList_make_full _ rfl _ _ 45 rfl w1.heap.size 47 i53 (.slice none 0 0) 1 Tryz.underlying45 hi53 hz530 hz531 .i64 .i64 _ _ R rfl rfl rfl rfl ?b2 ?b3 ?b4 ?_))
  case b2 => rw [hz532]; omega
  case b3 => unfold maxLen; omega
  case b4 => exact Nat.le_refl _
  intro w2 hown hgrow
  have A2 : Own w2 w1.heap.size R (fun _ => .slice none 0 0) := own_made (by rw [Nat.mul_one]; exact hown)
  have B2 : Below w1.heap.size w1 w2 := ⟨hgrow.os, hgrow.tape, hgrow.output, hgrow.size, fun k hk => hgrow.block k hk (by simp)⟩
  obtain ⟨q, hq⟩ : ∃ q, w1.heap.size = q := ⟨_, rfl⟩
  have M2 : Hid (Mk1 w2 q R R 0 (fun _ => 0)) := by
    rw [← hq]
    exact Mk1.begin A2
  have HB2 : Hid (Below w.heap.size w w2) := B1.trans (B2.mono B1.size)
  have HQ : Hid (w.heap.size ≤ q) := by show _ ≤ _; rw [← hq]; exact B1.size
  rw [hq]
  clear hown hgrow A2 hq B1 B2 h62w
  go_wp2
  go_loopw [21] (fun i wx => ∃ (k : Nat) (p : Nat → Nat), k ≤ R ∧ i = .int .i64 k ∧ Hid (Mk1 wx q R R k p) ∧ Hid (Below w.heap.size w wx) ∧ Hid (∀ j, j < k → w.heap.size ≤ p j)) (fun i _ => R - (intOf i).toNat)
  case atStart => exact ⟨0, _, by omega, rfl, M2, HB2, fun j hj => by omega⟩
  case round =>
    obtain ⟨k, p, hk, rfl, MJ, BJ, LJ⟩ := hrel
    clear M2 HB2
    by_cases hkn : k < R
    · have i1 : (k : Int) < (R : Int) := by omega
      have i0 : (0 : Int) ≤ (k : Int) := by omega
      have ca := MJ.out.oa.cell k hkn
      go_wp2_with (at_make; refine wpList_make_full _ rfl _ _ 47 rfl wr.heap.size 4 i4 (.bool false) 1 Tryz.underlying47 hi4 hz40 hz41 .i64 .i64 _ _ R rfl rfl rfl rfl ?b2 ?b3 ?b4 ?_)
      case b2 => rw [hz42]; omega
      case b3 => unfold maxLen; omega
      case b4 => exact Nat.le_refl _
      intro w4 hown hgrow
      have A4 : Own w4 wr.heap.size R (fun _ => .bool false) := own_made (by rw [Nat.mul_one]; exact hown)
      have B4 : Below wr.heap.size wr w4 := ⟨hgrow.os, hgrow.tape, hgrow.output, hgrow.size, fun k hk => hgrow.block k hk (by simp)⟩
      clear hown hgrow ca
      have ca := (MJ.out.oa.next B4).cell k hkn
      have fa := (MJ.out.oa.next B4).free k
      have M7 : Hid (Mk1 (w4.setCell ⟨q, k, none⟩ (.slice (some ⟨wr.heap.size, 0, none⟩) R R)) q R R (k + 1) (upF p k wr.heap.size)) := MJ.out.step hkn A4 B4 (Nat.le_refl _)
      have B6 : Hid (Below w.heap.size w (w4.setCell ⟨q, k, none⟩ (.slice (some ⟨wr.heap.size, 0, none⟩) R R))) := (BJ.out.trans (B4.mono BJ.out.size)).setCell (p := ⟨q, k, none⟩) HQ.out _
      have L7 : Hid (∀ j, j < k + 1 → w.heap.size ≤ upF p k wr.heap.size j) := fun j hj => by
        by_cases e : j = k
        · subst e
          rw [upF_at]
          exact BJ.out.size
        · rw [upF_lt _ _ _ _ (by omega)]
          exact LJ.out j (by omega)
      clear A4 B4 MJ BJ LJ
      go_wp2
      go_roundw
      case rel => exact ⟨k + 1, _, by omega, by go_num, M7, B6, L7⟩
      case measure => simp [intOf]; omega
    · obtain rfl : R = k := by omega
      have i1 : ¬ (R : Int) < (R : Int) := by omega
      have G0 := MJ.out.gd
      clear MJ
      go_wp2_with (go_at_call 49; refine (H35.out _ BJ.out).mono ?_; rintro e w5 ⟨qb, p0, pb, rfl, GB, OF, LO, B5⟩)
      have C0 : Hid (Cg c w q n R p qb pb p0 (fun _ _ => false) w5) := ⟨G0.next B5, GB, OF, BJ.out.trans (B5.mono BJ.out.size), LJ.out, fun i hi => by have := (G0.g.row i hi).hi; omega, fun i hi k hk => by have := (G0.g.row i hi).hi; have := LO.2.2 k hk; omega⟩
      have S0 : Hid (SI R (fun _ _ => false) (Pk c R 0)) := fun x y _ _ => ⟨fun h => (by cases h), fun h => absurd h (pk_zero c R x y)⟩
      clear G0 GB OF LO B5 BJ LJ H35
      go_loopw [37] (fun i wx => ∃ (k : Nat) (S : Nat → Nat → Bool), k ≤ n ∧ i = .int .i64 k ∧ Hid (Cg c w q n R p qb pb p0 S wx) ∧ Hid (SI R S (Pk c R k))) (fun i _ => n - (intOf i).toNat)
      case atStart => exact ⟨0, _, Nat.zero_le _, rfl, C0, S0⟩
      case round =>
        obtain ⟨k, S, hk, rfl, CJ, SJ⟩ := hrel
        clear C0 S0
        by_cases hkn : k < n
        · have i2 : (k : Int) < (n : Int) := by omega
          have k0 : (0 : Int) ≤ (k : Int) := by omega
          have hkc : k < c.n := by rw [HN.out]; exact hkn
          have RK := HR.out.next CJ.out.l
          have c0 := RK.c0 k hkn
          have c1 := RK.c1 k hkn
          have c2 := RK.c2 k hkn
          have c3 := RK.c3 k hkn
          have c4 := RK.c4 k hkn
          have c5 := RK.c5 k hkn
          have h54 := fun v => writes63 (c.O k) (c.D k) (c.A k) (c.B k) (c.C k) (c.X k) v (HK.out.ops k hkc)
          have CA := CJ.out.next ((Below.refl _ _).alloc (Nat.le_refl _) (.cells #[.int .i64 (c.O k), .int .i64 (c.D k), .int .i64 (c.A k), .int .i64 (c.B k), .int .i64 (c.C k), .int .u32 (c.X k)] 51))
          have d0 : (wr.alloc (.cells #[.int .i64 (c.O k), .int .i64 (c.D k), .int .i64 (c.A k), .int .i64 (c.B k), .int .i64 (c.C k), .int .u32 (c.X k)] 51)).cell? ⟨wr.heap.size, 0, none⟩ = some (.int .i64 (c.O k)) := by simp
          have d2 : (wr.alloc (.cells #[.int .i64 (c.O k), .int .i64 (c.D k), .int .i64 (c.A k), .int .i64 (c.B k), .int .i64 (c.C k), .int .u32 (c.X k)] 51)).cell? ⟨wr.heap.size, 2, none⟩ = some (.int .i64 (c.A k)) := by simp
          have QI : Hid (∀ i, i < R → wr.heap.size ≠ p i) := fun i hi => by have := (CJ.out.g.g.row i hi).hi; omega
          obtain ⟨qi, hqi⟩ : ∃ qi, wr.heap.size = qi := ⟨_, rfl⟩
          clear RK CJ
          cases hw : nmd (c.O k) 0
          · have SN : Hid (SI R S (Pk c R (k + 1))) := SJ.out.to (fun x y _ _ => by
              rw [pk_succ]
              constructor
              · exact Or.inl
              · rintro (h | ⟨r, _, _, h, _⟩)
                · exact h
                · rw [hw] at h; cases h)
            rw [hw] at h54
            simp only [Bool.false_eq_true, if_false] at h54
            clear hw SJ
            go_wp2_with (go_at_call 40; refine (h54 _).mono ?_; rintro e w6 ⟨rfl, B6⟩)
            have CN : Hid (Cg c w q n R p qb pb p0 S w6) := CA.next B6
            clear CA B6 h54
            go_roundw
            case rel => exact ⟨k + 1, S, by omega, by go_num, CN, SN⟩
            case measure => simp [intOf]; omega
          · rw [hw] at h54
            simp only [if_true] at h54
            have dlo := HK.out.wr k hkc hw
            have dhi := HD.out k hkn hw
            obtain ⟨dn, hdn⟩ : ∃ dn : Nat, c.D k = (dn : Int) := ⟨(c.D k).toNat, by omega⟩
            have HW : Hid (nmd (c.O k) 0 = true) := hw
            have HDn : Hid (c.D k = (dn : Int)) := hdn
            have hdR : dn < R := by omega
            have g0 : ¬ (dn : Int) < 0 := by omega
            have g1 : (dn : Int) < (R : Int) := by omega
            have g2 : (0 : Int) ≤ (dn : Int) := by omega
            clear hw dlo dhi
            have h54' : ∀ v, Calls Tryz.prog 40 #[.agg #[.int .i64 (c.O k), .int .i64 (c.D k), .int .i64 (c.A k), .int .i64 (c.B k), .int .i64 (c.C k), .int .u32 (c.X k)]] v fun e w' => e = .returned (.int .i64 (dn : Int)) ∧ Below v.heap.size v w' := fun v => (h54 v).mono (fun e w' h => ⟨by rw [← hdn]; exact h.1, h.2⟩)
            clear h54 hdn
            go_wp2_with (go_at_call 40; refine (h54' _).mono ?_; rintro e w6 ⟨rfl, B6⟩; (have pb6 := (CA.next B6).b.ptr k hkn))
            have C6 : Hid (Cg c w q n R p qb pb p0 S w6) := CA.next B6
            have S6 : Hid (SI R S (fun x y => Pk c R k x y ∨ ∃ s, s < 0 ∧ Wk c k s ∧ Ek c k s x y)) := SJ.out.to (fun x y _ _ => ⟨Or.inl, fun h => by rcases h with h | ⟨s, hs, _⟩; exact h; omega⟩)
            have E0 : Hid (w6.cell? ⟨qi, 0, none⟩ = some (.int .i64 (c.O k))) := by rw [hqi] at d0; exact cell_nx d0 B6
            have E2 : Hid (w6.cell? ⟨qi, 2, none⟩ = some (.int .i64 (c.A k))) := by rw [hqi] at d2; exact cell_nx d2 B6
            rw [hqi] at QI
            try rw [hqi]
            clear CA B6 h54' SJ d0 d2 c0 c1 c2 c3 c4 c5 pb6 hqi
            go_loopw [51] (fun i wx => ∃ (r : Nat) (S : Nat → Nat → Bool), r ≤ R ∧ i = .int .i64 r ∧ Hid (Cg c w q n R p qb pb p0 S wx) ∧ Hid (SI R S (fun x y => Pk c R k x y ∨ ∃ s, s < r ∧ Wk c k s ∧ Ek c k s x y)) ∧ Hid (wx.cell? ⟨qi, 0, none⟩ = some (.int .i64 (c.O k))) ∧ Hid (wx.cell? ⟨qi, 2, none⟩ = some (.int .i64 (c.A k)))) (fun i _ => R - (intOf i).toNat)
            case atStart => exact ⟨0, S, Nat.zero_le _, rfl, C6, S6, E0, E2⟩
            case round =>
              obtain ⟨r, S, hr, rfl, CJ, SJ, EJ, FJ⟩ := hrel
              clear C6 S6 E0 E2
              by_cases hrR : r < R
              · have i3 : (r : Int) < (R : Int) := by omega
                have r0 : (0 : Int) ≤ (r : Int) := by omega
                have cb := (CJ.out.b.row k hkn).cell r hrR
                cases hB : lbB c k r
                · rw [hB] at cb
                  have NW : ¬ Wk c k r := fun h => by have := (lbB_iff c k r).2 h.1; rw [hB] at this; cases this
                  have SN : Hid (SI R S (fun x y => Pk c R k x y ∨ ∃ s, s < r + 1 ∧ Wk c k s ∧ Ek c k s x y)) := SJ.out.to (fun x y hx hy => by
                    constructor
                    · rintro (h | ⟨s, hs, h⟩)
                      · exact Or.inl h
                      · exact Or.inr ⟨s, by omega, h⟩
                    · rintro (h | ⟨s, hs, h1, h2⟩)
                      · exact Or.inl h
                      · by_cases e : s = r
                        · subst e; exact absurd h1 NW
                        · exact Or.inr ⟨s, by omega, h1, h2⟩)
                  clear NW hB SJ
                  go_wp2
                  go_roundw
                  case rel => exact ⟨r + 1, S, by omega, by go_num, CJ, SN, EJ, FJ⟩
                  case measure => simp [intOf]; omega
                · rw [hB] at cb
                  by_cases hd : r = dn
                  · have NW : ¬ Wk c k r := fun h => h.2.1 (by rw [HDn.out, hd])
                    have SN : Hid (SI R S (fun x y => Pk c R k x y ∨ ∃ s, s < r + 1 ∧ Wk c k s ∧ Ek c k s x y)) := SJ.out.to (fun x y hx hy => by
                      constructor
                      · rintro (h | ⟨s, hs, h⟩)
                        · exact Or.inl h
                        · exact Or.inr ⟨s, by omega, h⟩
                      · rintro (h | ⟨s, hs, h1, h2⟩)
                        · exact Or.inl h
                        · by_cases e : s = r
                          · subst e; exact absurd h1 NW
                          · exact Or.inr ⟨s, by omega, h1, h2⟩)
                    have f1 : ((r : Int) != (dn : Int)) = false := by simp [hd]
                    have f2 : ((r : Int) == (dn : Int)) = true := by simp [hd]
                    clear NW hB SJ hd
                    go_wp2
                    go_roundw
                    case rel => exact ⟨r + 1, S, by omega, by go_num, CJ, SN, EJ, FJ⟩
                    case measure => simp [intOf]; omega
                  have f1 : ((r : Int) != (dn : Int)) = true := by simp; omega
                  have f2 : ((r : Int) == (dn : Int)) = false := by simp; omega
                  have e0 := EJ.out
                  have e2 := FJ.out
                  by_cases hm : c.O k = 2 ∧ c.A k = (r : Int)
                  · have NW : ¬ Wk c k r := fun h => h.2.2 hm
                    have SN : Hid (SI R S (fun x y => Pk c R k x y ∨ ∃ s, s < r + 1 ∧ Wk c k s ∧ Ek c k s x y)) := SJ.out.to (fun x y hx hy => by
                      constructor
                      · rintro (h | ⟨s, hs, h⟩)
                        · exact Or.inl h
                        · exact Or.inr ⟨s, by omega, h⟩
                      · rintro (h | ⟨s, hs, h1, h2⟩)
                        · exact Or.inl h
                        · by_cases e : s = r
                          · subst e; exact absurd h1 NW
                          · exact Or.inr ⟨s, by omega, h1, h2⟩)
                    rw [hm.1] at e0
                    rw [hm.2] at e2
                    clear NW hB SJ hd hm
                    go_wp2
                    go_roundw
                    case rel => exact ⟨r + 1, S, by omega, by go_num, CJ, SN, EJ, FJ⟩
                    case measure => simp [intOf]; omega
                  have YW : Wk c k r := ⟨(lbB_iff c k r).1 hB, by rw [HDn.out]; omega, hm⟩
                  have C1 := CJ.out.put dn r hdR hrR
                  have C2 := C1.put r dn hrR hdR
                  have SN : Hid (SI R (put2 (put2 S dn r) r dn) (fun x y => Pk c R k x y ∨ ∃ s, s < r + 1 ∧ Wk c k s ∧ Ek c k s x y)) := ((SJ.out.put dn r).put r dn).to (fun x y hx hy => by
                    constructor
                    · rintro (((h | ⟨s, hs, h⟩) | ⟨rfl, rfl⟩) | ⟨rfl, rfl⟩)
                      · exact Or.inl h
                      · exact Or.inr ⟨s, by omega, h⟩
                      · exact Or.inr ⟨y, by omega, YW, HW.out, Or.inl ⟨HDn.out.symm, rfl⟩⟩
                      · exact Or.inr ⟨x, by omega, YW, HW.out, Or.inr ⟨rfl, HDn.out.symm⟩⟩
                    · rintro (h | ⟨s, hs, h1, h2⟩)
                      · exact Or.inl (Or.inl (Or.inl h))
                      · by_cases e : s = r
                        · subst e
                          rcases h2.2 with ⟨h3, h4⟩ | ⟨h3, h4⟩
                          · exact Or.inl (Or.inr ⟨by have := HDn.out; omega, h4⟩)
                          · exact Or.inr ⟨h3, by have := HDn.out; omega⟩
                        · exact Or.inl (Or.inl (Or.inr ⟨s, by omega, h1, h2⟩)))
                  have pa1 := CJ.out.g.g.ptr dn hdR
                  have ca1 := (CJ.out.g.g.row dn hdR).cell r hrR
                  have fa1 := (CJ.out.g.g.row dn hdR).free r
                  have pa2 := C1.g.g.ptr r hrR
                  have ca2 := (C1.g.g.row r hrR).cell dn hdR
                  have fa2 := (C1.g.g.row r hrR).free dn
                  have CN : Hid (Cg c w q n R p qb pb p0 (put2 (put2 S dn r) r dn) ((wr.setCell ⟨p dn, r, none⟩ (.bool true)).setCell ⟨p r, dn, none⟩ (.bool true))) := C2
                  have EN : Hid (((wr.setCell ⟨p dn, r, none⟩ (.bool true)).setCell ⟨p r, dn, none⟩ (.bool true)).cell? ⟨qi, 0, none⟩ = some (.int .i64 (c.O k))) := only_cell ((Only.refl _ _).setCell _ _) (only_cell ((Only.refl _ _).setCell _ _) EJ.out (QI.out dn hdR)) (QI.out r hrR)
                  have FN : Hid (((wr.setCell ⟨p dn, r, none⟩ (.bool true)).setCell ⟨p r, dn, none⟩ (.bool true)).cell? ⟨qi, 2, none⟩ = some (.int .i64 (c.A k))) := only_cell ((Only.refl _ _).setCell _ _) (only_cell ((Only.refl _ _).setCell _ _) FJ.out (QI.out dn hdR)) (QI.out r hrR)
                  clear C1 C2 CJ SJ EJ FJ YW hB hd
                  by_cases ho : c.O k = 2
                  · have ha : ¬ c.A k = (r : Int) := fun x => hm ⟨ho, x⟩
                    have f3 : (c.A k == (r : Int)) = false := by simp [ha]
                    rw [ho] at e0
                    clear hm ho ha
                    go_wp2
                    go_roundw
                    case rel => exact ⟨r + 1, _, by omega, by go_num, CN, SN, EN, FN⟩
                    case measure => simp [intOf]; omega
                  · have f3 : (c.O k == 2) = false := by simp [ho]
                    clear hm
                    go_wp2
                    go_roundw
                    case rel => exact ⟨r + 1, _, by omega, by go_num, CN, SN, EN, FN⟩
                    case measure => simp [intOf]; omega
              · obtain rfl : R = r := by omega
                have i3 : ¬ (R : Int) < (R : Int) := by omega
                have SN : Hid (SI R S (Pk c R (k + 1))) := SJ.out.to (fun x y _ _ => by rw [pk_succ])
                clear SJ EJ FJ
                go_wp2
                go_roundw
                case rel => exact ⟨k + 1, S, by omega, by go_num, CJ, SN⟩
                case measure => simp [intOf]; omega
        · obtain rfl : n = k := by omega
          have i2 : ¬ (n : Int) < (n : Int) := by omega
          have S1 : Hid (SI R S (fun u v => Pk c R n u v ∨ (u < 0 ∧ u ≠ v ∧ LA c 0 u ∧ LA c 0 v))) := SJ.out.to (fun x y _ _ => ⟨Or.inl, fun h => by rcases h with h | ⟨h, _⟩; exact h; omega⟩)
          clear SJ
          go_wp2
          go_loopw [90] (fun i wx => ∃ (x : Nat) (S : Nat → Nat → Bool), x ≤ R ∧ i = .int .i64 x ∧ Hid (Cg c w q n R p qb pb p0 S wx) ∧ Hid (SI R S (fun u v => Pk c R n u v ∨ (u < x ∧ u ≠ v ∧ LA c 0 u ∧ LA c 0 v)))) (fun i _ => R - (intOf i).toNat)
          case atStart => exact ⟨0, S, Nat.zero_le _, rfl, CJ, S1⟩
          case round =>
            clear CJ S1
            obtain ⟨x, S, hx, rfl, CJ, SJ⟩ := hrel
            by_cases hxR : x < R
            · have i3 : (x : Int) < (R : Int) := by omega
              have x0 : (0 : Int) ≤ (x : Int) := by omega
              have S1 : Hid (SI R S (fun u v => (Pk c R n u v ∨ (u < x ∧ u ≠ v ∧ LA c 0 u ∧ LA c 0 v)) ∨ (u = x ∧ v < 0 ∧ u ≠ v ∧ LA c 0 u ∧ LA c 0 v))) := SJ.out.to (fun u v _ _ => ⟨Or.inl, fun h => by rcases h with h | ⟨_, h, _⟩; exact h; omega⟩)
              clear SJ
              go_wp2
              go_loopw [95] (fun i wx => ∃ (y : Nat) (S : Nat → Nat → Bool), y ≤ R ∧ i = .int .i64 y ∧ Hid (Cg c w q n R p qb pb p0 S wx) ∧ Hid (SI R S (fun u v => (Pk c R n u v ∨ (u < x ∧ u ≠ v ∧ LA c 0 u ∧ LA c 0 v)) ∨ (u = x ∧ v < y ∧ u ≠ v ∧ LA c 0 u ∧ LA c 0 v)))) (fun i _ => R - (intOf i).toNat)
              case atStart => exact ⟨0, S, Nat.zero_le _, rfl, CJ, S1⟩
              case round =>
                clear CJ S1
                obtain ⟨y, S, hy, rfl, CJ, SJ⟩ := hrel
                by_cases hyR : y < R
                · have i4 : (y : Int) < (R : Int) := by omega
                  have y0 : (0 : Int) ≤ (y : Int) := by omega
                  have HNo : Hid (¬ (x ≠ y ∧ LA c 0 x ∧ LA c 0 y) → SI R S (fun u v => (Pk c R n u v ∨ (u < x ∧ u ≠ v ∧ LA c 0 u ∧ LA c 0 v)) ∨ (u = x ∧ v < y + 1 ∧ u ≠ v ∧ LA c 0 u ∧ LA c 0 v))) := fun hno => SJ.out.to (fun u v _ _ => by
                    constructor
                    · rintro (h | ⟨h1, h2, h⟩)
                      · exact Or.inl h
                      · exact Or.inr ⟨h1, by omega, h⟩
                    · rintro (h | ⟨h1, h2, h⟩)
                      · exact Or.inl h
                      · by_cases e : v = y
                        · subst h1; subst e; exact absurd h hno
                        · exact Or.inr ⟨h1, by omega, h⟩)
                  have cx := CJ.out.f.cell x hxR
                  have cy := CJ.out.f.cell y hyR
                  by_cases hxy : x = y
                  · have SN : Hid (SI R S (fun u v => (Pk c R n u v ∨ (u < x ∧ u ≠ v ∧ LA c 0 u ∧ LA c 0 v)) ∨ (u = x ∧ v < y + 1 ∧ u ≠ v ∧ LA c 0 u ∧ LA c 0 v))) := HNo.out (fun h => h.1 hxy)
                    have f1 : ((x : Int) != (y : Int)) = false := by simp [hxy]
                    have f2 : ((x : Int) == (y : Int)) = true := by simp [hxy]
                    clear HNo SJ hxy
                    go_wp2
                    go_roundw
                    case rel => exact ⟨y + 1, S, by omega, by go_num, CJ, SN⟩
                    case measure => simp [intOf]; omega
                  have f1 : ((x : Int) != (y : Int)) = true := by simp; omega
                  have f2 : ((x : Int) == (y : Int)) = false := by simp; omega
                  cases hX : laB c 0 x
                  · have SN : Hid (SI R S (fun u v => (Pk c R n u v ∨ (u < x ∧ u ≠ v ∧ LA c 0 u ∧ LA c 0 v)) ∨ (u = x ∧ v < y + 1 ∧ u ≠ v ∧ LA c 0 u ∧ LA c 0 v))) := HNo.out (fun h => by have := (laB_iff c 0 x).2 h.2.1; rw [hX] at this; cases this)
                    rw [hX] at cx
                    clear HNo SJ hX
                    go_wp2
                    go_roundw
                    case rel => exact ⟨y + 1, S, by omega, by go_num, CJ, SN⟩
                    case measure => simp [intOf]; omega
                  cases hY : laB c 0 y
                  · have SN : Hid (SI R S (fun u v => (Pk c R n u v ∨ (u < x ∧ u ≠ v ∧ LA c 0 u ∧ LA c 0 v)) ∨ (u = x ∧ v < y + 1 ∧ u ≠ v ∧ LA c 0 u ∧ LA c 0 v))) := HNo.out (fun h => by have := (laB_iff c 0 y).2 h.2.2; rw [hY] at this; cases this)
                    rw [hX] at cx
                    rw [hY] at cy
                    clear HNo SJ hX hY
                    go_wp2
                    go_roundw
                    case rel => exact ⟨y + 1, S, by omega, by go_num, CJ, SN⟩
                    case measure => simp [intOf]; omega
                  have SN : Hid (SI R (put2 S x y) (fun u v => (Pk c R n u v ∨ (u < x ∧ u ≠ v ∧ LA c 0 u ∧ LA c 0 v)) ∨ (u = x ∧ v < y + 1 ∧ u ≠ v ∧ LA c 0 u ∧ LA c 0 v))) := (SJ.out.put x y).to (fun u v _ _ => by
                    constructor
                    · rintro ((h | ⟨h1, h2, h⟩) | ⟨rfl, rfl⟩)
                      · exact Or.inl h
                      · exact Or.inr ⟨h1, by omega, h⟩
                      · exact Or.inr ⟨rfl, by omega, hxy, (laB_iff c 0 u).1 hX, (laB_iff c 0 v).1 hY⟩
                    · rintro (h | ⟨h1, h2, h⟩)
                      · exact Or.inl (Or.inl h)
                      · by_cases e : v = y
                        · exact Or.inr ⟨h1, e⟩
                        · exact Or.inl (Or.inr ⟨h1, by omega, h⟩))
                  have CN : Hid (Cg c w q n R p qb pb p0 (put2 S x y) (wr.setCell ⟨p x, y, none⟩ (.bool true))) := CJ.out.put x y hxR hyR
                  have pa1 := CJ.out.g.g.ptr x hxR
                  have ca1 := (CJ.out.g.g.row x hxR).cell y hyR
                  have fa1 := (CJ.out.g.g.row x hxR).free y
                  rw [hX] at cx
                  rw [hY] at cy
                  clear HNo SJ hX hY CJ hxy
                  go_wp2
                  go_roundw
                  case rel => exact ⟨y + 1, _, by omega, by go_num, CN, SN⟩
                  case measure => simp [intOf]; omega
                · obtain rfl : R = y := by omega
                  have i4 : ¬ (R : Int) < (R : Int) := by omega
                  have SN : Hid (SI R S (fun u v => Pk c R n u v ∨ (u < x + 1 ∧ u ≠ v ∧ LA c 0 u ∧ LA c 0 v))) := SJ.out.to (fun u v hu hv => by
                    constructor
                    · rintro ((h | ⟨h1, h⟩) | ⟨h1, h2, h⟩)
                      · exact Or.inl h
                      · exact Or.inr ⟨by omega, h⟩
                      · exact Or.inr ⟨by omega, h⟩
                    · rintro (h | ⟨h1, h⟩)
                      · exact Or.inl (Or.inl h)
                      · by_cases e : u = x
                        · exact Or.inr ⟨e, hv, h⟩
                        · exact Or.inl (Or.inr ⟨by omega, h⟩))
                  clear SJ
                  go_wp2
                  go_roundw
                  case rel => exact ⟨x + 1, S, by omega, by go_num, CJ, SN⟩
                  case measure => simp [intOf]; omega
            · obtain rfl : R = x := by omega
              have i3 : ¬ (R : Int) < (R : Int) := by omega
              have SE : SI R S (Cl c R n) := SJ.out.to (fun u v hu hv => by
                unfold Cl
                constructor
                · rintro (h | ⟨h1, h⟩)
                  · exact Or.inl h
                  · exact Or.inr h
                · rintro (h | h)
                  · exact Or.inl h
                  · exact Or.inr ⟨hu, h⟩)
              have GE : Hid (Gr2 wr q R R p (clB c R n)) := ⟨CJ.out.g.g.ptr, fun k hk => (CJ.out.g.g.row k hk).mono (Nat.le_refl _) (fun r hr => by show Value.bool _ = Value.bool _; rw [clB_of SE k r hk hr]), CJ.out.g.g.hi⟩
              have BE : Hid (Below w.heap.size w wr) := CJ.out.l
              clear SE SJ CJ
              go_wp2
              go_ret
              exact ⟨q, rfl, ⟨p, GE.out⟩, BE.out⟩
end Go.Proofs.YtmeokhppaekhpaaGreatDoor
