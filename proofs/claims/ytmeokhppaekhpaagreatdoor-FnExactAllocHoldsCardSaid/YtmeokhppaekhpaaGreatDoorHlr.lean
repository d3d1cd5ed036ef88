/- When an alloc holds, told without a program; the model's l13Holds. The program's places and slots: small functions, closures that are asked of each, what is among the places and what among the slots. The program's seatsOf and oneAbove: the places and the slots of an alloc, one more than the greatest slot. The program's countsAsSaid and keptApart. -/
import Derived.Test.YtmeokhppaekhpaaGreatDoorCln
import Derived.Test.YtmeokhppaekhpaaGreatDoorWhr
import Derived.Lib.OwnKind
import Derived.Test.YtmeokhppaekhpaaGreatDoorTrn
namespace Go.Proofs.YtmeokhppaekhpaaGreatDoor
open Go.ChangeShapes Go.WideShapes Go.ChangeAt Go.RowKit
set_option linter.unusedVariables false
theorem Hid.mk' {p : Prop} (h : p) : Hid p := h
/-- How many of the first k have places. -/
def cntP (W : Nat → Int) : Nat → Nat
  | 0 => 0
  | k + 1 => cntP W k + (if 0 ≤ W k then 1 else 0)
/-- One more than the greatest slot of the first k. -/
def mxN (W : Nat → Int) : Nat → Int
  | 0 => 0
  | k + 1 => if W k < 0 ∧ mxN W k < -W k then -W k else mxN W k
theorem cntP_le (W : Nat → Int) : ∀ k, cntP W k ≤ k
  | 0 => Nat.le_refl _
  | k + 1 => by have := cntP_le W k; rw [cntP]; split <;> omega
/-- A register is where it may be, and apart from those that clash with it. -/
def OkR (c : Cd) (R n m : Nat) (W : Nat → Int) (S pl : Int) (r : Nat) : Prop := (W r < pl ∧ -S ≤ W r) ∧ ∀ s, s < R → clB c R n r s = true → W s ≠ W r
def HoldsP (c : Cd) (R n m : Nat) (W : Nat → Int) (Kp S pl : Int) : Prop := m = R ∧ 0 ≤ S ∧ S ≤ 400 ∧ (∀ r, r < m → OkR c R n m W S pl r) ∧ (cntP W m : Int) = Kp ∧ mxN W m = S
noncomputable def hldB (c : Cd) (R n m : Nat) (W : Nat → Int) (Kp S pl : Int) : Bool := @decide (HoldsP c R n m W Kp S pl) (Classical.propDecidable _)
theorem hld_no {c : Cd} {R n m : Nat} {W : Nat → Int} {Kp S pl : Int} (h : ¬ HoldsP c R n m W Kp S pl) : hldB c R n m W Kp S pl = false := @decide_eq_false _ (Classical.propDecidable _) h
theorem hld_yes {c : Cd} {R n m : Nat} {W : Nat → Int} {Kp S pl : Int} (h : HoldsP c R n m W Kp S pl) : hldB c R n m W Kp S pl = true := @decide_eq_true _ (Classical.propDecidable _) h
/-- An alloc's list as it is read. -/
def WRow (w : World) (ad : Option Addr) (m : Nat) (W : Nat → Int) : Prop := ∀ i, i < m → ∃ g o, ad = some ⟨g, o, none⟩ ∧ w.cell? ⟨g, o + i, none⟩ = some (.int .i64 (W i))
theorem WRow.next {w w' : World} {ad : Option Addr} {m : Nat} {W : Nat → Int} (h : WRow w ad m W) (b : Below w.heap.size w w') : WRow w' ad m W := fun i hi => by
  obtain ⟨g, o, h1, h2⟩ := h i hi
  exact ⟨g, o, h1, cell_nx h2 b⟩
set_option maxRecDepth 100000 in
set_option maxHeartbeats 8000000 in
theorem holds34 (n a cap R : Nat) (c : Cd) (w : World) (r1 : R ≤ 400) (ad : Option Addr) (m cp : Nat) (W : Nat → Int) (Kp S pl : Int) (hm : m ≤ 1048576) (hW : WRow w ad m W) (h23 : ∀ v, Below w.heap.size w v → Calls Tryz.prog 23 #[.slice (some ⟨a, 0, none⟩) n cap] v fun e w' => ∃ q p, e = .returned (.slice (some ⟨q, 0, none⟩) R R) ∧ Gr2 w' q R R p (clB c R n) ∧ Below v.heap.size v w') : Calls Tryz.prog 34 #[.slice (some ⟨a, 0, none⟩) n cap, .agg #[.slice ad m cp, .int .i64 Kp, .int .i64 S], .int .i64 pl] w fun e w' => e = .returned (.bool (hldB c R n m W Kp S pl)) ∧ Below w.heap.size w w' := by
  have BA : Below w.heap.size w (w.alloc (.cells #[.slice ad m cp, .int .i64 Kp, .int .i64 S] 26)) := (Below.refl _ _).alloc (Nat.le_refl _) _
  have H23 := h23 _ BA
  have HBA := Hid.mk' BA
  have HW := Hid.mk' hW
  obtain ⟨V, hV⟩ : ∃ V, w.alloc (.cells #[.slice ad m cp, .int .i64 Kp, .int .i64 S] 26) = V := ⟨_, rfl⟩
  have D0 : V.cell? ⟨w.heap.size, 0, none⟩ = some (.slice ad m cp) := by rw [← hV]; simp
  have D1 : V.cell? ⟨w.heap.size, 1, none⟩ = some (.int .i64 Kp) := by rw [← hV]; simp
  have D2 : V.cell? ⟨w.heap.size, 2, none⟩ = some (.int .i64 S) := by rw [← hV]; simp
  rw [hV] at H23 HBA
  have HPn : Hid (¬ HoldsP c R n m W Kp S pl → hldB c R n m W Kp S pl = false) := hld_no
  have HPy : Hid (HoldsP c R n m W Kp S pl → hldB c R n m W Kp S pl = true) := hld_yes
  generalize hldB c R n m W Kp S pl = res at HPn HPy ⊢
  clear BA h23 hW
  by_cases e1 : m = R
  case neg =>
    obtain rfl := HPn.out (fun h => e1 h.1)
    have g1 : ((m : Int) != (R : Int)) = true := by simp; omega
    clear e1
    go_enter Tryz.func34, Tryz.ntmps34
    go_wp2_with (go_at_call 23; refine H23.mono ?_; rintro e w1 ⟨q, p, rfl, G1, B1⟩; (have E0 := cell_nx D0 B1); (have E1 := cell_nx D1 B1); (have E2 := cell_nx D2 B1))
    go_ret
    exact ⟨rfl, HBA.out.trans (B1.mono HBA.out.size)⟩
  by_cases e2 : 0 ≤ S ∧ S ≤ 400
  case neg =>
    obtain rfl := HPn.out (fun h => e2 ⟨h.2.1, h.2.2.1⟩)
    have g1 : ((m : Int) != (R : Int)) = false := by simp; omega
    have g2 : (decide (S < 0) || decide (400 < S)) = true := by
      by_cases q : S < 0
      · rw [decide_eq_true q]; rfl
      · rw [decide_eq_true (show 400 < S by omega), Bool.or_true]
    clear e1 e2
    go_enter Tryz.func34, Tryz.ntmps34
    go_wp2_with (go_at_call 23; refine H23.mono ?_; rintro e w1 ⟨q, p, rfl, G1, B1⟩; (have E0 := cell_nx D0 B1); (have E1 := cell_nx D1 B1); (have E2 := cell_nx D2 B1))
    all_goals go_ret
    all_goals exact ⟨rfl, HBA.out.trans (B1.mono HBA.out.size)⟩
  obtain ⟨s0, s4⟩ := e2
  subst e1
  have g2 : ¬ S < 0 := by omega
  have g3 : ¬ 400 < S := by omega
  have HmR : Hid (m ≤ 400) := r1
  go_enter Tryz.func34, Tryz.ntmps34
  go_wp2_with (go_at_call 23; refine H23.mono ?_; rintro e w1 ⟨q, p, rfl, G1, B1⟩; (have E0 := cell_nx D0 B1); (have E1 := cell_nx D1 B1); (have E2 := cell_nx D2 B1))
  have HG := Hid.mk' G1
  have HB1 : Hid (Below w.heap.size w w1) := HBA.out.trans (B1.mono HBA.out.size)
  have HW1 : Hid (WRow w1 ad m W) := HW.out.next HB1.out
  clear G1 B1 H23 D0 D1 D2 HBA HW hV
  generalize w.heap.size = qa at E0 E1 E2 ⊢
  go_loop [8, 9, 34] (fun kv sv i => ∃ r : Nat, r ≤ m ∧ i = .int .i64 r ∧ kv = .int .i64 (cntP W r : Nat) ∧ sv = .int .i64 (mxN W r) ∧ Hid (∀ r', r' < r → OkR c m n m W S pl r') ∧ Hid (0 ≤ mxN W r ∧ mxN W r ≤ S)) (fun _ _ i => m - (intOf i).toNat)
  case atStart => exact ⟨0, Nat.zero_le _, rfl, rfl, rfl, fun r' h => by omega, ⟨Int.le_refl _, s0⟩⟩
  case round =>
    obtain ⟨r, hr, rfl, rfl, rfl, HO, HM⟩ := hrel
    by_cases hrm : r < m
    · have i1 : (r : Int) < (m : Int) := by omega
      have i0 : (0 : Int) ≤ (r : Int) := by omega
      obtain ⟨g, o, rfl, ck⟩ := HW1.out r hrm
      obtain ⟨wv, hwv⟩ : ∃ wv, W r = wv := ⟨_, rfl⟩
      have HWv : Hid (W r = wv) := hwv
      rw [hwv] at ck
      clear hwv
      by_cases b1 : wv < pl ∧ -S ≤ wv
      case neg =>
        obtain rfl := HPn.out (fun h => b1 (by have := (h.2.2.2.1 r hrm).1; rw [HWv.out] at this; exact this))
        have b2 : (decide (pl ≤ wv) || decide (wv < -S)) = true := by
          by_cases z : pl ≤ wv
          · rw [decide_eq_true z]; rfl
          · rw [decide_eq_true (show wv < -S by omega), Bool.or_true]
        clear b1
        go_wp2
        all_goals go_ret
        all_goals exact ⟨rfl, HB1.out⟩
      obtain ⟨b1, b2⟩ := b1
      have cq := HG.out.ptr r hrm
      have hneg : IntKind.i64.wrap (-S) = -S := by rw [IntKind.wrap_i64]; omega
      have hm4 := HmR.out
      have HK1 : Hid (cntP W (r + 1) = cntP W r + (if 0 ≤ W r then 1 else 0)) := rfl
      have HS1 : Hid (mxN W (r + 1) = if W r < 0 ∧ mxN W r < -W r then -W r else mxN W r) := rfl
      have hkc := cntP_le W r
      have hmx := HM.out
      generalize cntP W r = kc at HK1 hkc ⊢
      generalize mxN W r = mx at HS1 hmx HM ⊢
      by_cases p0 : 0 ≤ wv
      · have HK2 : Hid (cntP W (r + 1) = kc + 1) := by show _ = _; rw [HK1.out, HWv.out, if_pos p0]
        have HS2 : Hid (mxN W (r + 1) = mx) := by show _ = _; rw [HS1.out, HWv.out, if_neg (by omega)]
        have HMN : Hid (0 ≤ mxN W (r + 1) ∧ mxN W (r + 1) ≤ S) := by show _ ∧ _; rw [HS2.out]; exact hmx
        have OKr : Hid (∀ s', s' < 0 → clB c m n r s' = true → W s' ≠ W r) := fun s' h => by omega
        go_wp2
        go_loop [64] (fun i => ∃ s : Nat, s ≤ m ∧ i = .int .i64 s ∧ Hid (∀ s', s' < s → clB c m n r s' = true → W s' ≠ W r)) (fun i => m - (intOf i).toNat)
        case atStart => exact ⟨0, Nat.zero_le _, rfl, OKr⟩
        case round =>
          obtain ⟨s, hs, rfl, HC⟩ := hrel
          clear OKr
          by_cases hsm : s < m
          · have z1 : (s : Int) < (m : Int) := by omega
            have z0 : (0 : Int) ≤ (s : Int) := by omega
            have cg := (HG.out.row r hrm).cell s hsm
            obtain ⟨g', o', hgo, cs⟩ := HW1.out s hsm
            injection hgo with hgo
            injection hgo with hg1 hg2
            subst hg1
            subst hg2
            have HCs : Hid (clB c m n r s = true → True) := fun _ => trivial
            obtain ⟨ws, hws⟩ : ∃ ws, W s = ws := ⟨_, rfl⟩
            have HWs : Hid (W s = ws) := hws
            rw [hws] at cs
            clear hws
            cases hcl : clB c m n r s
            · rw [hcl] at cg
              have HCN : Hid (∀ s', s' < s + 1 → clB c m n r s' = true → W s' ≠ W r) := fun s' h1 h2 => by
                by_cases e : s' = s
                · subst e; rw [hcl] at h2; cases h2
                · exact HC.out s' (by omega) h2
              clear hcl HC
              go_wp2
              go_round
              case rel => exact ⟨s + 1, by omega, by go_num, HCN⟩
              case measure => simp [intOf]; omega
            · rw [hcl] at cg
              by_cases eq : ws = wv
              · obtain rfl := HPn.out (fun h => (h.2.2.2.1 r hrm).2 s hsm hcl (by rw [HWs.out, HWv.out]; exact eq))
                have q1 : (ws == wv) = true := by simp [eq]
                clear eq hcl HC
                go_wp2
                go_ret
                exact ⟨rfl, HB1.out⟩
              · have q1 : (ws == wv) = false := by simp [eq]
                have HCN : Hid (∀ s', s' < s + 1 → clB c m n r s' = true → W s' ≠ W r) := fun s' h1 h2 => by
                  by_cases e : s' = s
                  · subst e; rw [HWs.out, HWv.out]; exact eq
                  · exact HC.out s' (by omega) h2
                clear eq hcl HC
                go_wp2
                go_round
                case rel => exact ⟨s + 1, by omega, by go_num, HCN⟩
                case measure => simp [intOf]; omega
          · obtain rfl : m = s := by omega
            have z1 : ¬ (m : Int) < (m : Int) := by omega
            have HON : Hid (∀ r', r' < r + 1 → OkR c m n m W S pl r') := fun r' h => by
              by_cases e : r' = r
              · subst e
                exact ⟨by rw [HWv.out]; exact ⟨b1, b2⟩, HC.out⟩
              · exact HO.out r' (by omega)
            clear HC
            go_wp2
            go_round
            case rel => exact ⟨r + 1, by omega, by go_num, by rw [HK2.out]; rfl, by rw [HS2.out], HON, HMN⟩
            case measure => simp [intOf]; omega
      · have p1 : ¬ (0 : Int) ≤ wv := p0
        have HK2 : Hid (cntP W (r + 1) = kc) := by show _ = _; rw [HK1.out, HWv.out, if_neg p0]; rfl
        by_cases p2 : mx < -wv
        · have HS2 : Hid (mxN W (r + 1) = -wv) := by show _ = _; rw [HS1.out, HWv.out, if_pos ⟨by omega, p2⟩]
          have HMN : Hid (0 ≤ mxN W (r + 1) ∧ mxN W (r + 1) ≤ S) := by show _ ∧ _; rw [HS2.out]; omega
          have OKr : Hid (∀ s', s' < 0 → clB c m n r s' = true → W s' ≠ W r) := fun s' h => by omega
          go_wp2
          go_loop [64] (fun i => ∃ s : Nat, s ≤ m ∧ i = .int .i64 s ∧ Hid (∀ s', s' < s → clB c m n r s' = true → W s' ≠ W r)) (fun i => m - (intOf i).toNat)
          case atStart => exact ⟨0, Nat.zero_le _, rfl, OKr⟩
          case round =>
            obtain ⟨s, hs, rfl, HC⟩ := hrel
            clear OKr
            by_cases hsm : s < m
            · have z1 : (s : Int) < (m : Int) := by omega
              have z0 : (0 : Int) ≤ (s : Int) := by omega
              have cg := (HG.out.row r hrm).cell s hsm
              obtain ⟨g', o', hgo, cs⟩ := HW1.out s hsm
              injection hgo with hgo
              injection hgo with hg1 hg2
              subst hg1
              subst hg2
              have HCs : Hid (clB c m n r s = true → True) := fun _ => trivial
              obtain ⟨ws, hws⟩ : ∃ ws, W s = ws := ⟨_, rfl⟩
              have HWs : Hid (W s = ws) := hws
              rw [hws] at cs
              clear hws
              cases hcl : clB c m n r s
              · rw [hcl] at cg
                have HCN : Hid (∀ s', s' < s + 1 → clB c m n r s' = true → W s' ≠ W r) := fun s' h1 h2 => by
                  by_cases e : s' = s
                  · subst e; rw [hcl] at h2; cases h2
                  · exact HC.out s' (by omega) h2
                clear hcl HC
                go_wp2
                go_round
                case rel => exact ⟨s + 1, by omega, by go_num, HCN⟩
                case measure => simp [intOf]; omega
              · rw [hcl] at cg
                by_cases eq : ws = wv
                · obtain rfl := HPn.out (fun h => (h.2.2.2.1 r hrm).2 s hsm hcl (by rw [HWs.out, HWv.out]; exact eq))
                  have q1 : (ws == wv) = true := by simp [eq]
                  clear eq hcl HC
                  go_wp2
                  go_ret
                  exact ⟨rfl, HB1.out⟩
                · have q1 : (ws == wv) = false := by simp [eq]
                  have HCN : Hid (∀ s', s' < s + 1 → clB c m n r s' = true → W s' ≠ W r) := fun s' h1 h2 => by
                    by_cases e : s' = s
                    · subst e; rw [HWs.out, HWv.out]; exact eq
                    · exact HC.out s' (by omega) h2
                  clear eq hcl HC
                  go_wp2
                  go_round
                  case rel => exact ⟨s + 1, by omega, by go_num, HCN⟩
                  case measure => simp [intOf]; omega
            · obtain rfl : m = s := by omega
              have z1 : ¬ (m : Int) < (m : Int) := by omega
              have HON : Hid (∀ r', r' < r + 1 → OkR c m n m W S pl r') := fun r' h => by
                by_cases e : r' = r
                · subst e
                  exact ⟨by rw [HWv.out]; exact ⟨b1, b2⟩, HC.out⟩
                · exact HO.out r' (by omega)
              clear HC
              go_wp2
              go_round
              case rel => exact ⟨r + 1, by omega, by go_num, by rw [HK2.out], by rw [HS2.out], HON, HMN⟩
              case measure => simp [intOf]; omega
        · have HS2 : Hid (mxN W (r + 1) = mx) := by show _ = _; rw [HS1.out, HWv.out, if_neg (fun h => p2 h.2)]
          have HMN : Hid (0 ≤ mxN W (r + 1) ∧ mxN W (r + 1) ≤ S) := by show _ ∧ _; rw [HS2.out]; exact hmx
          have OKr : Hid (∀ s', s' < 0 → clB c m n r s' = true → W s' ≠ W r) := fun s' h => by omega
          go_wp2
          go_loop [64] (fun i => ∃ s : Nat, s ≤ m ∧ i = .int .i64 s ∧ Hid (∀ s', s' < s → clB c m n r s' = true → W s' ≠ W r)) (fun i => m - (intOf i).toNat)
          case atStart => exact ⟨0, Nat.zero_le _, rfl, OKr⟩
          case round =>
            obtain ⟨s, hs, rfl, HC⟩ := hrel
            clear OKr
            by_cases hsm : s < m
            · have z1 : (s : Int) < (m : Int) := by omega
              have z0 : (0 : Int) ≤ (s : Int) := by omega
              have cg := (HG.out.row r hrm).cell s hsm
              obtain ⟨g', o', hgo, cs⟩ := HW1.out s hsm
              injection hgo with hgo
              injection hgo with hg1 hg2
              subst hg1
              subst hg2
              have HCs : Hid (clB c m n r s = true → True) := fun _ => trivial
              obtain ⟨ws, hws⟩ : ∃ ws, W s = ws := ⟨_, rfl⟩
              have HWs : Hid (W s = ws) := hws
              rw [hws] at cs
              clear hws
              cases hcl : clB c m n r s
              · rw [hcl] at cg
                have HCN : Hid (∀ s', s' < s + 1 → clB c m n r s' = true → W s' ≠ W r) := fun s' h1 h2 => by
                  by_cases e : s' = s
                  · subst e; rw [hcl] at h2; cases h2
                  · exact HC.out s' (by omega) h2
                clear hcl HC
                go_wp2
                go_round
                case rel => exact ⟨s + 1, by omega, by go_num, HCN⟩
                case measure => simp [intOf]; omega
              · rw [hcl] at cg
                by_cases eq : ws = wv
                · obtain rfl := HPn.out (fun h => (h.2.2.2.1 r hrm).2 s hsm hcl (by rw [HWs.out, HWv.out]; exact eq))
                  have q1 : (ws == wv) = true := by simp [eq]
                  clear eq hcl HC
                  go_wp2
                  go_ret
                  exact ⟨rfl, HB1.out⟩
                · have q1 : (ws == wv) = false := by simp [eq]
                  have HCN : Hid (∀ s', s' < s + 1 → clB c m n r s' = true → W s' ≠ W r) := fun s' h1 h2 => by
                    by_cases e : s' = s
                    · subst e; rw [HWs.out, HWv.out]; exact eq
                    · exact HC.out s' (by omega) h2
                  clear eq hcl HC
                  go_wp2
                  go_round
                  case rel => exact ⟨s + 1, by omega, by go_num, HCN⟩
                  case measure => simp [intOf]; omega
            · obtain rfl : m = s := by omega
              have z1 : ¬ (m : Int) < (m : Int) := by omega
              have HON : Hid (∀ r', r' < r + 1 → OkR c m n m W S pl r') := fun r' h => by
                by_cases e : r' = r
                · subst e
                  exact ⟨by rw [HWv.out]; exact ⟨b1, b2⟩, HC.out⟩
                · exact HO.out r' (by omega)
              clear HC
              go_wp2
              go_round
              case rel => exact ⟨r + 1, by omega, by go_num, by rw [HK2.out], by rw [HS2.out], HON, HMN⟩
              case measure => simp [intOf]; omega
    · obtain rfl : m = r := by omega
      have i1 : ¬ (m : Int) < (m : Int) := by omega
      have HAll : Hid ((cntP W m : Int) = Kp ∧ mxN W m = S → res = true) := fun h => HPy.out ⟨rfl, s0, s4, HO.out, h⟩
      have HNon : Hid (¬ ((cntP W m : Int) = Kp ∧ mxN W m = S) → res = false) := fun h => HPn.out (fun q => h q.2.2.2.2)
      generalize (cntP W m : Int) = kc at HAll HNon ⊢
      generalize mxN W m = mx at HAll HNon ⊢
      by_cases q1 : kc = Kp
      · by_cases q2 : mx = S
        · obtain rfl := HAll.out ⟨q1, q2⟩
          have e1 : (kc == Kp) = true := by simp [q1]
          have e2 : (mx == S) = true := by simp [q2]
          clear q1 q2
          go_wp2
          go_ret
          exact ⟨rfl, HB1.out⟩
        · obtain rfl := HNon.out (fun h => q2 h.2)
          have e1 : (kc == Kp) = true := by simp [q1]
          have e2 : (mx == S) = false := by simp [q2]
          clear q1 q2
          go_wp2
          go_ret
          exact ⟨rfl, HB1.out⟩
      · obtain rfl := HNon.out (fun h => q1 h.1)
        have e1 : (kc == Kp) = false := by simp [q1]
        clear q1
        go_wp2
        go_ret
        exact ⟨rfl, HB1.out⟩
end Go.Proofs.YtmeokhppaekhpaaGreatDoor
namespace Go.Proofs.YtmeokhppaekhpaaGreatDoor
open Go.ChangeShapes Go.WideShapes Go.ChangeAt Go.RowKit
set_option linter.unusedVariables false
/-- A place tells whether it is there. -/
def IxH (z : Int) (b : Bool) : Prop := decide (0 ≤ z) = b
def anyB (Z : Nat → Bool) : Nat → Bool
  | 0 => false
  | n + 1 => anyB Z n || Z n
theorem anyB_yes (Z : Nat → Bool) : ∀ n k, k < n → Z k = true → anyB Z n = true
  | 0, k, h, _ => by omega
  | n + 1, k, h, e => by
    rw [anyB, Bool.or_eq_true]
    by_cases q : k = n
    · subst q; exact Or.inr e
    · exact Or.inl (anyB_yes Z n k (by omega) e)
theorem anyB_no (Z : Nat → Bool) : ∀ n, (∀ j, j < n → Z j = false) → anyB Z n = false
  | 0, _ => rfl
  | n + 1, h => by rw [anyB, anyB_no Z n (fun j hj => h j (by omega)), h n (by omega)]; rfl
theorem anyB_iff (Z : Nat → Bool) : ∀ n, anyB Z n = true ↔ ∃ k, k < n ∧ Z k = true
  | 0 => by simp [anyB]
  | n + 1 => by
    rw [anyB, Bool.or_eq_true, anyB_iff Z n]
    constructor
    · rintro (⟨k, h, e⟩ | e)
      · exact ⟨k, by omega, e⟩
      · exact ⟨n, by omega, e⟩
    · rintro ⟨k, h, e⟩
      by_cases q : k = n
      · subst q; exact Or.inr e
      · exact Or.inl ⟨k, by omega, e⟩
set_option maxRecDepth 100000 in
theorem slotOf60 (x : Int) (w : World) : Calls Tryz.prog 60 #[.int .i64 x] w fun e w' => e = .returned (.int .i64 (wrap64 (-1 - x))) ∧ w' = w := by
  go_enter Tryz.func60, Tryz.ntmps60
  go_wp2
  go_ret
  exact ⟨rfl, rfl⟩
set_option maxRecDepth 100000 in
theorem goodP27 (x : Int) (w : World) : Calls Tryz.prog 27 #[.int .i64 x] w fun e w' => e = .returned (.bool (decide (1 ≤ x) && decide (x ≤ 64))) ∧ w' = w := by
  by_cases h1 : 1 ≤ x
  · by_cases h2 : x ≤ 64
    · rw [decide_eq_true h1, decide_eq_true h2]
      go_enter Tryz.func27, Tryz.ntmps27
      go_wp2
      go_ret
      exact ⟨rfl, rfl⟩
    · rw [decide_eq_true h1, decide_eq_false h2]
      go_enter Tryz.func27, Tryz.ntmps27
      go_wp2
      go_ret
      exact ⟨rfl, rfl⟩
  · rw [decide_eq_false h1, Bool.false_and]
    go_enter Tryz.func27, Tryz.ntmps27
    go_wp2
    go_ret
    exact ⟨rfl, rfl⟩
set_option maxRecDepth 100000 in
set_option maxHeartbeats 2000000 in
theorem index66_p (p1 p2 : Nat) (ad : Option Addr) (n cp : Nat) (f : Nat → Int) (Z : Nat → Bool) (w : World) (hn : n ≤ 1048576) (hL : WRow w ad n f) (HG : ∀ i, i < n → ∀ v, Below w.heap.size w v → Calls Tryz.prog 59 #[.int .i64 (f i), .pointer (some ⟨p1, 0, none⟩), .pointer (some ⟨p2, 0, none⟩)] v fun e w' => e = .returned (.bool (Z i)) ∧ Below v.heap.size v w') : Calls Tryz.prog 66 #[.slice ad n cp, .func (.func 59) #[] #[.pointer (some ⟨p1, 0, none⟩), .pointer (some ⟨p2, 0, none⟩)]] w fun e w' => (∃ z : Int, e = .returned (.int .i64 z) ∧ IxH z (anyB Z n)) ∧ Below w.heap.size w w' := by
  have HL := Hid.mk' hL
  have H := Hid.mk' HG
  clear hL HG
  go_enter Tryz.func66, Tryz.ntmps66
  go_wp2
  go_loopw [8] (fun i wx => ∃ k : Nat, k ≤ n ∧ i = .int .i64 k ∧ Hid (∀ j, j < k → Z j = false) ∧ Hid (Below w.heap.size w wx)) (fun i _ => n - (intOf i).toNat)
  case atStart => exact ⟨0, Nat.zero_le _, rfl, fun j hj => by omega, Below.refl _ _⟩
  case round =>
    obtain ⟨k, hk, rfl, HK, HB⟩ := hrel
    by_cases hkn : k < n
    · have i1 : (k : Int) < (n : Int) := by omega
      have i0 : (0 : Int) ≤ (k : Int) := by omega
      obtain ⟨g, o, rfl, ck0⟩ := HL.out k hkn
      have ck := cell_nx ck0 HB.out
      have hg := H.out k hkn wr HB.out
      clear ck0
      cases e : Z k
      · rw [e] at hg
        have HKN : Hid (∀ j, j < k + 1 → Z j = false) := fun j hj => by
          by_cases q : j = k
          · subst q; exact e
          · exact HK.out j (by omega)
        clear e HK
        go_wp2_with (go_at_call 59; refine hg.mono ?_; rintro e w1 ⟨rfl, B1⟩)
        have BN : Hid (Below w.heap.size w w1) := HB.out.trans (B1.mono HB.out.size)
        clear HB B1 hg
        go_roundw
        case rel => exact ⟨k + 1, by omega, by go_num, HKN, BN⟩
        case measure => simp [intOf]; omega
      · rw [e] at hg
        have HM : Hid (IxH (k : Int) (anyB Z n)) := by
          show decide (0 ≤ (k : Int)) = _
          rw [decide_eq_true i0, anyB_yes Z n k hkn e]
        clear e HK
        go_wp2_with (go_at_call 59; refine hg.mono ?_; rintro e w1 ⟨rfl, B1⟩)
        go_ret
        exact ⟨⟨_, rfl, HM.out⟩, HB.out.trans (B1.mono HB.out.size)⟩
    · obtain rfl : n = k := by omega
      have i1 : ¬ (n : Int) < (n : Int) := by omega
      have HM : Hid (IxH (-1 : Int) (anyB Z n)) := by
        show decide (0 ≤ (-1 : Int)) = _
        rw [anyB_no Z n HK.out]
        rfl
      go_wp2
      go_ret
      exact ⟨⟨_, rfl, HM.out⟩, HB.out⟩
set_option maxRecDepth 100000 in
theorem contains44_p (p1 p2 : Nat) (ad : Option Addr) (n cp : Nat) (f : Nat → Int) (Z : Nat → Bool) (w : World) (hn : n ≤ 1048576) (hL : WRow w ad n f) (HG : ∀ i, i < n → ∀ v, Below w.heap.size w v → Calls Tryz.prog 59 #[.int .i64 (f i), .pointer (some ⟨p1, 0, none⟩), .pointer (some ⟨p2, 0, none⟩)] v fun e w' => e = .returned (.bool (Z i)) ∧ Below v.heap.size v w') : Calls Tryz.prog 44 #[.slice ad n cp, .func (.func 59) #[] #[.pointer (some ⟨p1, 0, none⟩), .pointer (some ⟨p2, 0, none⟩)]] w fun e w' => e = .returned (.bool (anyB Z n)) ∧ Below w.heap.size w w' := by
  have h66 := index66_p p1 p2 ad n cp f Z w hn hL HG
  generalize anyB Z n = b at h66 ⊢
  clear hL HG
  go_enter Tryz.func44, Tryz.ntmps44
  go_wp2_with (go_at_call 66; refine h66.mono ?_; rintro e w1 ⟨⟨z, rfl, hz0⟩, B1⟩; (have hz : decide (0 ≤ z) = b := hz0))
  go_ret
  exact ⟨by first | (rw [← hz]; rfl) | (subst hz; rfl) | (simp only [← hz]; rfl), B1⟩
set_option maxRecDepth 100000 in
set_option maxHeartbeats 2000000 in
theorem index66_k (p1 p2 : Nat) (ad : Option Addr) (n cp : Nat) (f : Nat → Int) (Z : Nat → Bool) (w : World) (hn : n ≤ 1048576) (hL : WRow w ad n f) (HG : ∀ i, i < n → ∀ v, Below w.heap.size w v → Calls Tryz.prog 63 #[.int .i64 (f i), .pointer (some ⟨p1, 0, none⟩), .pointer (some ⟨p2, 0, none⟩)] v fun e w' => e = .returned (.bool (Z i)) ∧ Below v.heap.size v w') : Calls Tryz.prog 66 #[.slice ad n cp, .func (.func 63) #[] #[.pointer (some ⟨p1, 0, none⟩), .pointer (some ⟨p2, 0, none⟩)]] w fun e w' => (∃ z : Int, e = .returned (.int .i64 z) ∧ IxH z (anyB Z n)) ∧ Below w.heap.size w w' := by
  have HL := Hid.mk' hL
  have H := Hid.mk' HG
  clear hL HG
  go_enter Tryz.func66, Tryz.ntmps66
  go_wp2
  go_loopw [8] (fun i wx => ∃ k : Nat, k ≤ n ∧ i = .int .i64 k ∧ Hid (∀ j, j < k → Z j = false) ∧ Hid (Below w.heap.size w wx)) (fun i _ => n - (intOf i).toNat)
  case atStart => exact ⟨0, Nat.zero_le _, rfl, fun j hj => by omega, Below.refl _ _⟩
  case round =>
    obtain ⟨k, hk, rfl, HK, HB⟩ := hrel
    by_cases hkn : k < n
    · have i1 : (k : Int) < (n : Int) := by omega
      have i0 : (0 : Int) ≤ (k : Int) := by omega
      obtain ⟨g, o, rfl, ck0⟩ := HL.out k hkn
      have ck := cell_nx ck0 HB.out
      have hg := H.out k hkn wr HB.out
      clear ck0
      cases e : Z k
      · rw [e] at hg
        have HKN : Hid (∀ j, j < k + 1 → Z j = false) := fun j hj => by
          by_cases q : j = k
          · subst q; exact e
          · exact HK.out j (by omega)
        clear e HK
        go_wp2_with (go_at_call 63; refine hg.mono ?_; rintro e w1 ⟨rfl, B1⟩)
        have BN : Hid (Below w.heap.size w w1) := HB.out.trans (B1.mono HB.out.size)
        clear HB B1 hg
        go_roundw
        case rel => exact ⟨k + 1, by omega, by go_num, HKN, BN⟩
        case measure => simp [intOf]; omega
      · rw [e] at hg
        have HM : Hid (IxH (k : Int) (anyB Z n)) := by
          show decide (0 ≤ (k : Int)) = _
          rw [decide_eq_true i0, anyB_yes Z n k hkn e]
        clear e HK
        go_wp2_with (go_at_call 63; refine hg.mono ?_; rintro e w1 ⟨rfl, B1⟩)
        go_ret
        exact ⟨⟨_, rfl, HM.out⟩, HB.out.trans (B1.mono HB.out.size)⟩
    · obtain rfl : n = k := by omega
      have i1 : ¬ (n : Int) < (n : Int) := by omega
      have HM : Hid (IxH (-1 : Int) (anyB Z n)) := by
        show decide (0 ≤ (-1 : Int)) = _
        rw [anyB_no Z n HK.out]
        rfl
      go_wp2
      go_ret
      exact ⟨⟨_, rfl, HM.out⟩, HB.out⟩
set_option maxRecDepth 100000 in
theorem contains44_k (p1 p2 : Nat) (ad : Option Addr) (n cp : Nat) (f : Nat → Int) (Z : Nat → Bool) (w : World) (hn : n ≤ 1048576) (hL : WRow w ad n f) (HG : ∀ i, i < n → ∀ v, Below w.heap.size w v → Calls Tryz.prog 63 #[.int .i64 (f i), .pointer (some ⟨p1, 0, none⟩), .pointer (some ⟨p2, 0, none⟩)] v fun e w' => e = .returned (.bool (Z i)) ∧ Below v.heap.size v w') : Calls Tryz.prog 44 #[.slice ad n cp, .func (.func 63) #[] #[.pointer (some ⟨p1, 0, none⟩), .pointer (some ⟨p2, 0, none⟩)]] w fun e w' => e = .returned (.bool (anyB Z n)) ∧ Below w.heap.size w w' := by
  have h66 := index66_k p1 p2 ad n cp f Z w hn hL HG
  generalize anyB Z n = b at h66 ⊢
  clear hL HG
  go_enter Tryz.func44, Tryz.ntmps44
  go_wp2_with (go_at_call 66; refine h66.mono ?_; rintro e w1 ⟨⟨z, rfl, hz0⟩, B1⟩; (have hz : decide (0 ≤ z) = b := hz0))
  go_ret
  exact ⟨by first | (rw [← hz]; rfl) | (subst hz; rfl) | (simp only [← hz]; rfl), B1⟩
/-- Whether a register is beyond the places or the slots. -/
def beyB (pl S x : Int) : Bool := decide (pl ≤ x) || decide (S ≤ wrap64 (-1 - x))
set_option maxRecDepth 100000 in
set_option maxHeartbeats 2000000 in
theorem bey59 (x pl S : Int) (p1 p2 : Nat) (w : World) (c1 : w.cell? ⟨p1, 0, none⟩ = some (.int .i64 pl)) (c2 : w.cell? ⟨p2, 2, none⟩ = some (.int .i64 S)) : Calls Tryz.prog 59 #[.int .i64 x, .pointer (some ⟨p1, 0, none⟩), .pointer (some ⟨p2, 0, none⟩)] w fun e w' => e = .returned (.bool (beyB pl S x)) ∧ Below w.heap.size w w' := by
  have h60 := fun v => slotOf60 x v
  unfold beyB
  generalize wrap64 (-1 - x) = y at h60 ⊢
  by_cases h1 : pl ≤ x
  · have g1 : decide (pl ≤ x) = true := by simp [h1]
    clear h1
    rw [g1, Bool.true_or]
    go_enter Tryz.func59, Tryz.ntmps59
    go_wp2
    go_quiet (fail)
    go_wp2
    go_ret
    exact ⟨rfl, below_drewN (Below.refl _ _) _⟩
  · have g1 : decide (pl ≤ x) = false := by simp [h1]
    have d2 : w.drew.cell? ⟨p2, 2, none⟩ = some (.int .i64 S) := c2
    clear h1
    rw [g1, Bool.false_or]
    go_enter Tryz.func59, Tryz.ntmps59
    go_wp2
    go_region_with (go_at_call 60; refine (h60 _).mono ?_; rintro e w1 ⟨rfl, hw⟩; subst w1)
    all_goals
      go_wp2
      go_ret
      exact ⟨rfl, by first | exact below_drew (Below.refl _ _) | exact Below.refl _ _⟩
set_option maxRecDepth 100000 in
set_option maxHeartbeats 2000000 in
theorem same63 (x r : Nat) (ad : Option Addr) (m cp : Nat) (W : Nat → Int) (p1 p2 : Nat) (w : World) (hx : x < m) (hr : r < m) (c1 : w.cell? ⟨p1, 0, none⟩ = some (.slice ad m cp)) (c2 : w.cell? ⟨p2, 0, none⟩ = some (.int .i64 (r : Int))) (hW : WRow w ad m W) : Calls Tryz.prog 63 #[.int .i64 (x : Int), .pointer (some ⟨p1, 0, none⟩), .pointer (some ⟨p2, 0, none⟩)] w fun e w' => e = .returned (.bool (W x == W r)) ∧ Below w.heap.size w w' := by
  obtain ⟨g, o, rfl, k1⟩ := hW x hx
  obtain ⟨g', o', hgo, k2⟩ := hW r hr
  injection hgo with hgo
  injection hgo with hg1 hg2
  subst hg1
  subst hg2
  have x0 : (0 : Int) ≤ (x : Int) := by omega
  have x1 : (x : Int) < (m : Int) := by omega
  have r0 : (0 : Int) ≤ (r : Int) := by omega
  have r1 : (r : Int) < (m : Int) := by omega
  generalize W x = a at k1 ⊢
  generalize W r = b at k2 ⊢
  clear hW
  go_enter Tryz.func63, Tryz.ntmps63
  go_wp2
  go_quiet (fail)
  go_wp2
  go_ret
  exact ⟨rfl, below_drewN (Below.refl _ _) _⟩
end Go.Proofs.YtmeokhppaekhpaaGreatDoor
namespace Go.Proofs.YtmeokhppaekhpaaGreatDoor
open Go.ChangeShapes Go.WideShapes Go.ChangeAt Go.RowKit
set_option linter.unusedVariables false
theorem info57 : (Tryz.prog.info? 57).map (fun i => (i.zero, i.size, i.bytes)) = some (some (.int .i64 0), 1, 8) := by kernel_rfl
theorem info84 : (Tryz.prog.info? 84).map (fun i => (i.zero, i.size, i.bytes)) = some (some (.int .i64 0), 1, 8) := by kernel_rfl
/-- Those with places, and the slots, among the first k. -/
def plL (W : Nat → Int) : Nat → List Int
  | 0 => []
  | k + 1 => plL W k ++ (if 0 ≤ W k then [W k] else [])
def slL (W : Nat → Int) : Nat → List Int
  | 0 => []
  | k + 1 => slL W k ++ (if 0 ≤ W k then [] else [-1 - W k])
theorem pl_len (W : Nat → Int) : ∀ k, (plL W k).length = cntP W k
  | 0 => rfl
  | k + 1 => by
    rw [plL, cntP, List.length_append, pl_len W k]
    split <;> rfl
theorem sl_len (W : Nat → Int) : ∀ k, (slL W k).length ≤ k
  | 0 => Nat.le_refl _
  | k + 1 => by
    have := sl_len W k
    rw [slL, List.length_append]
    split <;> simp <;> omega
/-- One more than the greatest of a list of numbers from 0 on. -/
def oneAb (L : List Int) : Int := L.foldl (fun a x => if a < x + 1 then x + 1 else a) 0
theorem oneAb_snoc (L : List Int) (x : Int) : oneAb (L ++ [x]) = if oneAb L < x + 1 then x + 1 else oneAb L := by unfold oneAb; rw [List.foldl_append]; rfl
theorem oneAb_sl (W : Nat → Int) : ∀ k, oneAb (slL W k) = mxN W k
  | 0 => rfl
  | k + 1 => by
    rw [slL, mxN]
    by_cases h : 0 ≤ W k
    · rw [if_pos h, List.append_nil, oneAb_sl W k, if_neg (by omega)]
    · rw [if_neg h, oneAb_snoc, oneAb_sl W k]
      by_cases q : mxN W k < -W k
      · rw [if_pos (by omega), if_pos ⟨by omega, q⟩]; omega
      · rw [if_neg (by omega), if_neg (fun z => q z.2)]
theorem sl_mem (W : Nat → Int) (y : Int) : ∀ k, y ∈ slL W k → ∃ i, i < k ∧ W i < 0 ∧ y = -1 - W i
  | 0, h => by cases h
  | k + 1, h => by
    rw [slL] at h
    rcases List.mem_append.1 h with h | h
    · obtain ⟨i, h1, h2⟩ := sl_mem W y k h
      exact ⟨i, by omega, h2⟩
    · split at h
      · cases h
      · exact ⟨k, by omega, by omega, by simpa using h⟩
theorem owns_grown {w w' : World} {B e n : Nat} {v : Value} {xs : List Value} {row : Option Nat} (h : w.ownsRow B e 1 v n xs) (g : w.grownBy w' row) (hne : ∀ q, v.ownBlock = some q → some q ≠ row) : w'.ownsRow B e 1 v n xs := by
  refine ⟨h.1, ?_⟩
  rcases h.2 with h0 | ⟨q, cap, cur, h1, h2, h3, h4⟩
  · exact Or.inl h0
  · refine Or.inr ⟨q, cap, cur, h1, h2, ?_, h4⟩
    have hq : q < w.heap.size := by
      rcases Nat.lt_or_ge q w.heap.size with z | z
      · exact z
      · rw [Array.getElem?_eq_none z] at h3; cases h3
    rw [g.block q hq (hne q (by rw [h1]; rfl)), h3]
theorem owns_next {w w' : World} {B e n : Nat} {v : Value} {xs : List Value} (h : w.ownsRow B e 1 v n xs) (b : Below w.heap.size w w') : w'.ownsRow B e 1 v n xs := by
  refine ⟨h.1, ?_⟩
  rcases h.2 with h0 | ⟨q, cap, cur, h1, h2, h3, h4⟩
  · exact Or.inl h0
  · refine Or.inr ⟨q, cap, cur, h1, h2, ?_, h4⟩
    have hq : q < w.heap.size := by
      rcases Nat.lt_or_ge q w.heap.size with z | z
      · exact z
      · rw [Array.getElem?_eq_none z] at h3; cases h3
    rw [b.block q hq, h3]
/-- Two rows of unlike kinds lie in unlike blocks. -/
theorem kinds_ne {w : World} {B e e' n n' : Nat} {v v' : Value} {xs xs' : List Value} (h : w.ownsRow B e 1 v n xs) (h' : w.ownsRow B e' 1 v' n' xs') (ne : e ≠ e') : ∀ q, v.ownBlock = some q → some q ≠ v'.ownBlock := fun q hq e2 => by
  obtain ⟨c, f, h1⟩ := Lib.ownsRow_kind h q hq
  obtain ⟨c', f', h2⟩ := Lib.ownsRow_kind h' q e2.symm
  rw [h1] at h2
  injection h2 with h2
  injection h2 with _ h3
  exact ne h3
theorem take_snoc' (M : List Int) (j : Nat) (hj : j < M.length) : M.take (j + 1) = M.take j ++ [M.getD j 0] := by
  rw [List.take_add_one]
  simp [List.getD, hj]
theorem oneAb_bnd (L : List Int) (hp : ∀ y, y ∈ L → 0 ≤ y ∧ y ≤ 1000) : 0 ≤ oneAb L ∧ oneAb L ≤ 1001 := by
  have key : ∀ k, k ≤ L.length → 0 ≤ oneAb (L.take k) ∧ oneAb (L.take k) ≤ 1001 := fun k => by
    induction k with
    | zero => intro _; rw [List.take_zero]; exact ⟨Int.le_refl _, by decide⟩
    | succ k ih =>
      intro hk
      have := ih (by omega)
      have := hp (L.getD k 0) (by simp [List.getD, show k < L.length by omega])
      rw [take_snoc' L k (by omega), oneAb_snoc]
      split <;> omega
  have := key L.length (Nat.le_refl _)
  rwa [List.take_length] at this
/-- A row of numbers of any kind, as it is read. -/
def LRow (w : World) (v : Value) (L : List Int) : Prop := ∃ ad c, v = .slice ad L.length c ∧ ∀ i, i < L.length → ∃ g o, ad = some ⟨g, o, none⟩ ∧ w.cell? ⟨g, o + i, none⟩ = some (.int .i64 (L.getD i 0))
def Len1 (v : Value) (n : Nat) : Prop := ∃ a c, v = .slice a n c
theorem owns_arow {w : World} {B e : Nat} {v : Value} {L : List Int} (h : w.ownsRow B e 1 v L.length (il L)) : LRow w v L := by
  by_cases e0 : L.length = 0
  · rcases h.2 with ⟨hv, _⟩ | ⟨q, cap, cur, hv, _⟩
    · exact ⟨none, 0, by rw [hv, e0], fun i hi => by omega⟩
    · exact ⟨_, _, hv, fun i hi => by omega⟩
  · obtain ⟨g, cp, rfl, _, _⟩ := World.ownsRow.form h (by omega)
    refine ⟨_, _, rfl, fun i hi => ⟨g, 0, rfl, ?_⟩⟩
    rw [Nat.zero_add, h.cellAt i (by omega)]
    simp [il, List.getD, hi]
set_option maxRecDepth 100000 in
set_option maxHeartbeats 4000000 in
theorem seats61 (ad : Option Addr) (m cp : Nat) (W : Nat → Int) (w : World) (hm : m ≤ 400) (hb : ∀ i, i < m → -400 ≤ W i ∧ W i < 1000) (hW : WRow w ad m W) : Calls Tryz.prog 61 #[.slice ad m cp] w fun e w' => ∃ u1 u2, e = .returned (.tuple #[u1, u2]) ∧ Len1 u1 (cntP W m) ∧ LRow w' u2 (slL W m) ∧ Below w.heap.size w w' := by
  obtain ⟨i57, hi57, hz570, hz571, hz572⟩ := info_parts info57
  obtain ⟨i84, hi84, hz840, hz841, hz842⟩ := info_parts info84
  have HW := Hid.mk' hW
  have HBd := Hid.mk' hb
  clear hW hb
  go_enter Tryz.func61, Tryz.ntmps61
  go_wp2
  go_loopw [4, 5, 10] (fun v1 v2 i wx => ∃ (k : Nat) (u1 u2 : Value), k ≤ m ∧ i = .int .i64 k ∧ u1 = v1 ∧ u2 = v2 ∧ Hid (wx.ownsRow w.heap.size 57 1 u1 (plL W k).length (il (plL W k))) ∧ Hid (wx.ownsRow w.heap.size 84 1 u2 (slL W k).length (il (slL W k))) ∧ Hid (Below w.heap.size w wx)) (fun _ _ i _ => m - (intOf i).toNat)
  case atStart => exact ⟨0, _, _, Nat.zero_le _, rfl, rfl, rfl, World.ownsRow_nil _ _ _ _, World.ownsRow_nil _ _ _ _, Below.refl _ _⟩
  case round =>
    obtain ⟨k, u1, u2, hk, rfl, rfl, rfl, H1, H2, HB⟩ := hrel
    by_cases hkm : k < m
    · have i1 : (k : Int) < (m : Int) := by omega
      have i0 : (0 : Int) ≤ (k : Int) := by omega
      obtain ⟨g, o, rfl, ck0⟩ := HW.out k hkm
      have ck := cell_nx ck0 HB.out
      have hbk := HBd.out k hkm
      have HP : Hid (plL W (k + 1) = plL W k ++ (if 0 ≤ W k then [W k] else [])) := rfl
      have HS : Hid (slL W (k + 1) = slL W k ++ (if 0 ≤ W k then [] else [-1 - W k])) := rfl
      have HL1 : Hid ((plL W k).length ≤ 400) := by show _ ≤ _; rw [pl_len]; have := cntP_le W k; omega
      have HL2 : Hid ((slL W k).length ≤ 400) := by have := sl_len W k; show _ ≤ _; omega
      generalize W k = x at ck hbk HP HS
      generalize plL W k = A at H1 HP HL1
      generalize slL W k = B at H2 HS HL2
      have HLt1 : Hid (∀ q, u1.ownBlock = some q → w.heap.size ≤ q) := fun q hq => (H1.out.lt q hq).1
      have HLt2 : Hid (∀ q, u2.ownBlock = some q → w.heap.size ≤ q) := fun q hq => (H2.out.lt q hq).1
      clear ck0
      by_cases p0 : 0 ≤ x
      · have HP2 : Hid (plL W (k + 1) = A ++ [x]) := by show _ = _; rw [HP.out, if_pos p0]
        have HS2 : Hid (slL W (k + 1) = B) := by show _ = _; rw [HS.out, if_pos p0, List.append_nil]
        have BA : Below wr.heap.size wr (wr.alloc (.cells #[.int .i64 x] 57)) := (Below.refl _ _).alloc (Nat.le_refl _) _
        have O1 : Hid ((wr.alloc (.cells #[.int .i64 x] 57)).ownsRow w.heap.size 57 1 u1 A.length (il A)) := owns_next H1.out BA
        have O2 : Hid ((wr.alloc (.cells #[.int .i64 x] 57)).ownsRow w.heap.size 84 1 u2 B.length (il B)) := owns_next H2.out BA
        have HBA : Hid (Below w.heap.size w (wr.alloc (.cells #[.int .i64 x] 57))) := HB.out.trans (BA.mono HB.out.size)
        clear H1 H2 HB BA
        go_wp2_with (at_builtin; refine wpList_append_own _ rfl _ _ 86 rfl w.heap.size 57 i57 (.int .i64 0) 1 8 Tryz.underlying86 hi57 hz570 hz571 hz572 rfl (by decide) _ _ _ rfl O1.out ⟨_, 0, none⟩ 1 1 [.int .i64 x] rfl rfl ?_ ?_ ?_ ?_ ?_ ?_)
        · intro j u hj
          match j, hj with
          | 0, hj => simp at hj; subst hj; simp [Addr.add]
        · intro u hu; simp at hu; subst hu; rfl
        · have := HL1.out; unfold maxLen; omega
        · have := HL1.out; omega
        · have := HBA.out.size; exact this
        intro v3 w3 hown hgrow _
        have B3 : Hid (Below w.heap.size w w3) := HBA.out.grown hgrow HBA.out.size (fun q hq => HLt1.out q hq)
        have U1 : Hid (w3.ownsRow w.heap.size 57 1 v3 (plL W (k + 1)).length (il (plL W (k + 1)))) := by show World.ownsRow _ _ _ _ _ _ _; rw [HP2.out, List.length_append, il_app]; exact hown
        have U2 : Hid (w3.ownsRow w.heap.size 84 1 u2 (slL W (k + 1)).length (il (slL W (k + 1)))) := by show World.ownsRow _ _ _ _ _ _ _; rw [HS2.out]; exact owns_grown O2.out hgrow (kinds_ne O2.out O1.out (by decide))
        clear hown hgrow O1 O2 HBA
        go_wp2
        go_roundw
        case rel => exact ⟨k + 1, _, _, by omega, by go_num, rfl, rfl, U1, U2, B3⟩
        case measure => simp [intOf]; omega
      · have p1 : ¬ (0 : Int) ≤ x := p0
        have HP2 : Hid (plL W (k + 1) = A) := by show _ = _; rw [HP.out, if_neg p0, List.append_nil]
        have HS2 : Hid (slL W (k + 1) = B ++ [-1 - x]) := by show _ = _; rw [HS.out, if_neg p0]
        have h60 := slotOf60 x wr
        have hwr : wrap64 (-1 - x) = -1 - x := by unfold wrap64; omega
        rw [hwr] at h60
        generalize -1 - x = y at HS2 h60
        have BA : Below wr.heap.size wr (wr.alloc (.cells #[.int .i64 y] 84)) := (Below.refl _ _).alloc (Nat.le_refl _) _
        have O1 : Hid ((wr.alloc (.cells #[.int .i64 y] 84)).ownsRow w.heap.size 57 1 u1 A.length (il A)) := owns_next H1.out BA
        have O2 : Hid ((wr.alloc (.cells #[.int .i64 y] 84)).ownsRow w.heap.size 84 1 u2 B.length (il B)) := owns_next H2.out BA
        have HBA : Hid (Below w.heap.size w (wr.alloc (.cells #[.int .i64 y] 84))) := HB.out.trans (BA.mono HB.out.size)
        clear H1 H2 HB BA hwr
        go_wp2_with (first | (go_at_call 60; refine h60.mono ?_; rintro e w1 ⟨rfl, hw⟩; subst w1) | (at_builtin; refine wpList_append_own _ rfl _ _ 87 rfl w.heap.size 84 i84 (.int .i64 0) 1 8 Tryz.underlying87 hi84 hz840 hz841 hz842 rfl (by decide) _ _ _ rfl O2.out ⟨_, 0, none⟩ 1 1 [.int .i64 y] rfl rfl ?_ ?_ ?_ ?_ ?_ ?_))
        · intro j u hj
          match j, hj with
          | 0, hj => simp at hj; subst hj; simp [Addr.add]
        · intro u hu; simp at hu; subst hu; rfl
        · have := HL2.out; unfold maxLen; omega
        · have := HL2.out; omega
        · have := HBA.out.size; exact this
        intro v3 w3 hown hgrow _
        have B3 : Hid (Below w.heap.size w w3) := HBA.out.grown hgrow HBA.out.size (fun q hq => HLt2.out q hq)
        have U2 : Hid (w3.ownsRow w.heap.size 84 1 v3 (slL W (k + 1)).length (il (slL W (k + 1)))) := by show World.ownsRow _ _ _ _ _ _ _; rw [HS2.out, List.length_append, il_app]; exact hown
        have U1 : Hid (w3.ownsRow w.heap.size 57 1 u1 (plL W (k + 1)).length (il (plL W (k + 1)))) := by show World.ownsRow _ _ _ _ _ _ _; rw [HP2.out]; exact owns_grown O1.out hgrow (kinds_ne O1.out O2.out (by decide))
        clear hown hgrow O1 O2 HBA
        go_wp2
        go_roundw
        case rel => exact ⟨k + 1, _, _, by omega, by go_num, rfl, rfl, U1, U2, B3⟩
        case measure => simp [intOf]; omega
    · obtain rfl : m = k := by omega
      have i1 : ¬ (m : Int) < (m : Int) := by omega
      have E1 : Hid (Len1 u1 (cntP W m)) := by
        obtain ⟨a, c, h1, _⟩ := owns_arow H1.out
        rw [pl_len] at h1
        exact ⟨a, c, h1⟩
      have E2 := Hid.mk' (owns_arow H2.out)
      clear H1 H2
      go_wp2
      go_ret2
      exact ⟨u1, u2, rfl, E1.out, E2.out, HB.out⟩
set_option maxRecDepth 100000 in
set_option maxHeartbeats 2000000 in
theorem max101 (v : Value) (L : List Int) (w : World) (hl : L.length ≤ 400) (h1 : 1 ≤ L.length) (hp : ∀ y, y ∈ L → 0 ≤ y ∧ y ≤ 1000) (hL : LRow w v L) : Calls Tryz.prog 101 #[v] w fun e w' => e = .returned (.int .i64 (oneAb L - 1)) ∧ w' = w := by
  obtain ⟨ad, cp, rfl, hc⟩ := hL
  have HC := Hid.mk' hc
  have HP : Hid (∀ i, i < L.length → 0 ≤ L.getD i 0 ∧ L.getD i 0 ≤ 1000) := fun i hi => hp _ (by simp [List.getD, hi])
  have HT : Hid (∀ k, k < L.length → oneAb (L.take (k + 1)) = if oneAb (L.take k) < L.getD k 0 + 1 then L.getD k 0 + 1 else oneAb (L.take k)) := fun k hk => by rw [take_snoc' L k hk, oneAb_snoc]
  have HE : Hid (oneAb (L.take L.length) = oneAb L) := by show _ = _; rw [List.take_length]
  obtain ⟨n, hn⟩ : ∃ n, L.length = n := ⟨_, rfl⟩
  have HN : Hid (L.length = n) := hn
  obtain ⟨g, o, rfl, c0⟩ := hc 0 (by omega)
  have p0 := HP.out 0 (by omega)
  have HT0 : Hid (oneAb (L.take 1) = L.getD 0 0 + 1) := by
    have := HT.out 0 (by omega)
    show _ = _
    rw [this, List.take_zero, show oneAb [] = 0 from rfl, if_pos (by omega)]
  rw [hn] at hl h1 ⊢
  have n1 : ¬ (n : Int) < 1 := by omega
  have n2 : (0 : Int) < (n : Int) := by omega
  rw [Nat.add_zero] at c0
  obtain ⟨x0, hx0⟩ : ∃ x0, L.getD 0 0 = x0 := ⟨_, rfl⟩
  rw [hx0] at c0 HT0
  clear hc hp hn p0 hx0
  go_enter Tryz.func101, Tryz.ntmps101
  go_wp2
  go_loop [3, 4] (fun mv i => ∃ k : Nat, 1 ≤ k ∧ k ≤ n ∧ i = .int .i64 k ∧ mv = .int .i64 (oneAb (L.take k) - 1)) (fun _ i => n - (intOf i).toNat)
  case atStart => exact ⟨1, Nat.le_refl _, h1, rfl, by rw [HT0.out]; congr 1; omega⟩
  case round =>
    obtain ⟨k, k1, hk, rfl, rfl⟩ := hrel
    by_cases hkn : k < n
    · have i1 : (k : Int) < (n : Int) := by omega
      have i0 : (0 : Int) ≤ (k : Int) := by omega
      have hkl : k < L.length := by rw [HN.out]; exact hkn
      obtain ⟨g', o', hgo, ck⟩ := HC.out k hkl
      injection hgo with hgo
      injection hgo with hg1 hg2
      subst hg1
      subst hg2
      have HTk := Hid.mk' (HT.out k hkl)
      generalize L.getD k 0 = y at ck HTk
      generalize oneAb (L.take k) = a at HTk ⊢
      have HR : Hid ((if a - 1 < y then y else a - 1) = oneAb (L.take (k + 1)) - 1) := by
        show _ = _
        rw [HTk.out]
        by_cases q : a < y + 1
        · rw [if_pos q, if_pos (by omega)]; omega
        · rw [if_neg q, if_neg (by omega)]
      generalize a - 1 = b at HR ⊢
      clear HTk
      go_wp2
      all_goals
        go_round
        case rel => exact ⟨k + 1, by omega, by omega, by go_num, by rw [← HR.out]⟩
        case measure => simp [intOf]; omega
    · obtain rfl : n = k := by omega
      have i1 : ¬ (n : Int) < (n : Int) := by omega
      have HF : Hid (oneAb (L.take n) = oneAb L) := by have := HE.out; rw [HN.out] at this; exact this
      go_wp2
      go_ret
      exact ⟨by rw [← HF.out]; rfl, rfl⟩
set_option maxRecDepth 100000 in
theorem above62 (v : Value) (L : List Int) (w : World) (hl : L.length ≤ 400) (hp : ∀ y, y ∈ L → 0 ≤ y ∧ y ≤ 1000) (hL : LRow w v L) : Calls Tryz.prog 62 #[v] w fun e w' => e = .returned (.int .i64 (oneAb L)) ∧ w' = w := by
  by_cases e : L = []
  · subst e
    obtain ⟨ad, cp, rfl, _⟩ := hL
    show Calls Tryz.prog 62 #[.slice ad 0 cp] w fun e w' => e = .returned (.int .i64 0) ∧ w' = w
    go_enter Tryz.func62, Tryz.ntmps62
    go_wp2
    go_ret
    exact ⟨rfl, rfl⟩
  · have h1 := List.length_pos_iff.2 e
    have h101 := max101 v L w hl h1 hp hL
    have hb : 0 ≤ oneAb L ∧ oneAb L ≤ 1001 := oneAb_bnd L hp
    obtain ⟨ad, cp, rfl, _⟩ := hL
    generalize hz : oneAb L = z at h101 hb ⊢
    generalize L.length = n at h1 h101 ⊢
    have n0 : ((n : Int) == 0) = false := by simp; omega
    obtain ⟨y, hy⟩ : ∃ y, z - 1 = y := ⟨_, rfl⟩
    have HY : Hid (z = y + 1) := by show _ = _; omega
    rw [hy] at h101
    have y0 : -1 ≤ y ∧ y ≤ 1000 := by omega
    clear hz e hy hb h1 hl hp
    go_enter Tryz.func62, Tryz.ntmps62
    go_wp2_with (go_at_call 101; refine h101.mono ?_; rintro e w1 ⟨rfl, hw⟩; subst w1)
    go_ret
    exact ⟨by rw [HY.out]; rfl, rfl⟩
end Go.Proofs.YtmeokhppaekhpaaGreatDoor
namespace Go.Proofs.YtmeokhppaekhpaaGreatDoor
open Go.ChangeShapes Go.WideShapes Go.ChangeAt Go.RowKit
set_option linter.unusedVariables false
/-- What is asked of an alloc by itself. -/
def CntP (m : Nat) (W : Nat → Int) (Kp S pl : Int) : Prop := 0 ≤ S ∧ S ≤ 400 ∧ (∀ i, i < m → beyB pl S (W i) = false) ∧ (cntP W m : Int) = Kp ∧ mxN W m = S
theorem bey_iff {pl S x : Int} (h0 : -9223372036854775808 ≤ x) (h1 : x ≤ 9223372036854775807) : beyB pl S x = false ↔ x < pl ∧ -S ≤ x := by
  unfold beyB
  have : wrap64 (-1 - x) = -1 - x := by unfold wrap64; omega
  rw [this, Bool.or_eq_false_iff]
  simp only [decide_eq_false_iff_not]
  omega
set_option maxRecDepth 100000 in
set_option maxHeartbeats 4000000 in
theorem counts37 (ad : Option Addr) (m cp : Nat) (W : Nat → Int) (Kp S pl : Int) (w : World) (hm : m ≤ 400) (hp : pl ≤ 64) (hr : ∀ i, i < m → -9223372036854775808 ≤ W i ∧ W i ≤ 9223372036854775807) (hW : WRow w ad m W) (res : Bool) (hy : CntP m W Kp S pl → res = true) (hn : ¬ CntP m W Kp S pl → res = false) : Calls Tryz.prog 37 #[.agg #[.slice ad m cp, .int .i64 Kp, .int .i64 S], .int .i64 pl] w fun e w' => e = .returned (.bool res) ∧ Below w.heap.size w w' := by
  obtain ⟨V, hV⟩ : ∃ V, (w.alloc (.cells #[.slice ad m cp, .int .i64 Kp, .int .i64 S] 26)).alloc (.cells #[.int .i64 pl] 3) = V := ⟨_, rfl⟩
  have B1 : Below w.heap.size w (w.alloc (.cells #[.slice ad m cp, .int .i64 Kp, .int .i64 S] 26)) := (Below.refl _ _).alloc (Nat.le_refl _) _
  have BV : Below w.heap.size w V := by rw [← hV]; exact B1.trans (((Below.refl _ _).alloc (Nat.le_refl _) _).mono B1.size)
  have D0 : V.cell? ⟨w.heap.size, 0, none⟩ = some (.slice ad m cp) := by rw [← hV]; simp
  have D1 : V.cell? ⟨w.heap.size, 1, none⟩ = some (.int .i64 Kp) := by rw [← hV]; simp
  have D2 : V.cell? ⟨w.heap.size, 2, none⟩ = some (.int .i64 S) := by rw [← hV]; simp
  have D3 : V.cell? ⟨w.heap.size + 1, 0, none⟩ = some (.int .i64 pl) := by rw [← hV]; simp
  have HBV := Hid.mk' BV
  have HWV : Hid (WRow V ad m W) := hW.next BV
  have HY := Hid.mk' hy
  have HNo := Hid.mk' hn
  have HR := Hid.mk' hr
  clear hW hy hn hr B1 BV
  by_cases e2 : 0 ≤ S ∧ S ≤ 400
  case neg =>
    obtain rfl := HNo.out (fun h => e2 ⟨h.1, h.2.1⟩)
    by_cases q : S < 0
    · clear e2
      go_enter Tryz.func37, Tryz.ntmps37
      go_wp2
      go_ret
      exact ⟨rfl, HBV.out⟩
    · have q2 : 400 < S := by omega
      clear e2
      go_enter Tryz.func37, Tryz.ntmps37
      go_wp2
      go_ret
      exact ⟨rfl, HBV.out⟩
  obtain ⟨s0, s4⟩ := e2
  have g2 : ¬ S < 0 := by omega
  have g3 : ¬ 400 < S := by omega
  have h44 := contains44_p (w.heap.size + 1) w.heap.size ad m cp W (fun i => beyB pl S (W i)) V (by omega) HWV.out (fun i hi v b => bey59 (W i) pl S _ _ v (cell_nx D3 b) (cell_nx D2 b))
  cases ha : anyB (fun i => beyB pl S (W i)) m
  case true =>
    obtain rfl := HNo.out (fun h => by
      obtain ⟨k, hk, e⟩ := (anyB_iff _ m).1 ha
      have := h.2.2.1 k hk
      rw [this] at e
      cases e)
    rw [ha] at h44
    clear ha
    go_enter Tryz.func37, Tryz.ntmps37
    go_wp2_with (go_at_call 44; refine h44.mono ?_; rintro e w1 ⟨rfl, B1⟩)
    go_ret
    exact ⟨rfl, HBV.out.trans (B1.mono HBV.out.size)⟩
  have HAll : ∀ i, i < m → beyB pl S (W i) = false := fun i hi => by
    cases e : beyB pl S (W i)
    · rfl
    · rw [anyB_yes _ m i hi e] at ha; cases ha
  have hb : ∀ i, i < m → -400 ≤ W i ∧ W i < 1000 := fun i hi => by
    have := (bey_iff (HR.out i hi).1 (HR.out i hi).2).1 (HAll i hi)
    omega
  rw [ha] at h44
  have HAl := Hid.mk' HAll
  have H61 : Hid (∀ v, Below V.heap.size V v → Calls Tryz.prog 61 #[.slice ad m cp] v fun e w' => ∃ u1 u2, e = .returned (.tuple #[u1, u2]) ∧ Len1 u1 (cntP W m) ∧ LRow w' u2 (slL W m) ∧ Below v.heap.size v w') := fun v b => seats61 ad m cp W v hm hb (HWV.out.next b)
  have HSl : Hid ((slL W m).length ≤ 400) := by have := sl_len W m; show _ ≤ _; omega
  have HSm : Hid (∀ y, y ∈ slL W m → 0 ≤ y ∧ y ≤ 1000) := fun y hy => by
    obtain ⟨i, hi, h1, h2⟩ := sl_mem W y m hy
    have := hb i hi
    omega
  have HOn : Hid (oneAb (slL W m) = mxN W m) := oneAb_sl W m
  have HCn : Hid (∀ b1 b2 : Bool, ((cntP W m : Int) = Kp ↔ b1 = true) → (mxN W m = S ↔ b2 = true) → res = (b1 && b2)) := fun b1 b2 h1 h2 => by
    cases b1
    · exact HNo.out (fun h => by have := h1.1 h.2.2.2.1; cases this)
    · cases b2
      · exact HNo.out (fun h => by have := h2.1 h.2.2.2.2; cases this)
      · exact HY.out ⟨s0, s4, HAl.out, h1.2 rfl, h2.2 rfl⟩
  clear ha HAll hb
  generalize slL W m = L at H61 HSl HSm HOn
  generalize cntP W m = kc at H61 HCn
  generalize mxN W m = mx at HOn HCn
  go_enter Tryz.func37, Tryz.ntmps37
  go_wp2_with (first | (go_at_call 44; refine h44.mono ?_; rintro e w1 ⟨rfl, B1⟩; (have E0 := cell_nx D0 B1); (have E1 := cell_nx D1 B1); (have E2 := cell_nx D2 B1)) | (go_at_call 61; refine (H61.out w1 B1).mono ?_; rintro e w2 ⟨u1, u2, rfl, L1, R2, B2⟩; (obtain ⟨a1, c1, rfl⟩ := L1)))
  have F1 := cell_nx E1 B2
  have F2 := cell_nx E2 B2
  have HB2 : Hid (Below w.heap.size w w2) := (HBV.out.trans (B1.mono HBV.out.size)).trans (B2.mono (by have := HBV.out.size; have := B1.size; omega))
  have h62 : ∀ v, Below w2.heap.size w2 v → Calls Tryz.prog 62 #[u2] v fun e w' => e = .returned (.int .i64 mx) ∧ w' = v := fun v b => by
    rw [← HOn.out]
    exact above62 u2 L v HSl.out HSm.out (by
      obtain ⟨ad2, c2, h1, h2⟩ := R2
      exact ⟨ad2, c2, h1, fun i hi => by obtain ⟨g, o, h3, h4⟩ := h2 i hi; exact ⟨g, o, h3, cell_nx h4 b⟩⟩)
  have BD : Below w2.heap.size w2 w2.drew := below_drew (Below.refl _ _)
  have BW2 : Hid (Below w.heap.size w w2.drew) := HB2.out.trans (BD.mono HB2.out.size)
  clear h44 H61 B1 B2 E0 E1 E2 D0 D1 D2 D3 hV R2 HBV HWV
  by_cases q1 : Kp = (kc : Int)
  · have e1 : (Kp == (kc : Int)) = true := by simp [q1]
    obtain rfl := HCn.out true (S == mx) ⟨fun _ => rfl, fun _ => q1.symm⟩ (by rw [beq_iff_eq]; exact ⟨Eq.symm, Eq.symm⟩)
    clear q1
    go_region_with (go_at_call 62; refine (h62 _ ?_).mono ?_; (focus (first | with_reducible exact BD | with_reducible exact Below.refl _ _)); rintro e w3 ⟨rfl, hw⟩; subst w3)
    all_goals
      go_wp2
      go_ret
      exact ⟨rfl, by first | exact BW2.out | exact HB2.out⟩
  · have e1 : (Kp == (kc : Int)) = false := by simp [q1]
    obtain rfl := HCn.out false (S == mx) ⟨fun h => absurd h.symm q1, fun h => by cases h⟩ (by rw [beq_iff_eq]; exact ⟨Eq.symm, Eq.symm⟩)
    clear q1
    go_quiet (fail)
    go_wp2
    go_ret
    exact ⟨rfl, below_drewN HB2.out _⟩
/-- Whether no two that clash are at one place or slot. -/
def ApP (c : Cd) (R n : Nat) (W : Nat → Int) : Prop := ∀ r, r < R → ∀ s, s < R → clB c R n r s = true → W s ≠ W r
set_option maxRecDepth 100000 in
set_option maxHeartbeats 4000000 in
theorem apart38 (n a cap R : Nat) (c : Cd) (ad : Option Addr) (m cp : Nat) (W : Nat → Int) (w : World) (r4 : R ≤ 400) (hmR : m = R) (hW : WRow w ad m W) (h54 : ∀ v, Below w.heap.size w v → Calls Tryz.prog 54 #[.slice (some ⟨a, 0, none⟩) n cap] v fun e w' => ∃ u, e = .returned u ∧ ARows w' u R (fun x => lsF (clB c R n x) R) ∧ Below v.heap.size v w') (hls : ∀ x, ∀ i, i < (lsF (clB c R n x) R).length → ∃ s : Nat, (lsF (clB c R n x) R).getD i 0 = (s : Int) ∧ s < R ∧ clB c R n x s = true) (hll : ∀ x s, s < R → clB c R n x s = true → ∃ i, i < (lsF (clB c R n x) R).length ∧ (lsF (clB c R n x) R).getD i 0 = (s : Int)) (hlen : ∀ x, (lsF (clB c R n x) R).length ≤ 400) (res : Bool) (hy : ApP c R n W → res = true) (hn : ¬ ApP c R n W → res = false) : Calls Tryz.prog 38 #[.slice (some ⟨a, 0, none⟩) n cap, .slice ad m cp] w fun e w' => e = .returned (.bool res) ∧ Below w.heap.size w w' := by
  subst hmR
  obtain ⟨V, hV⟩ : ∃ V, w.alloc (.cells #[.slice ad m cp] 24) = V := ⟨_, rfl⟩
  have BV : Below w.heap.size w V := by rw [← hV]; exact (Below.refl _ _).alloc (Nat.le_refl _) _
  have D0 : V.cell? ⟨w.heap.size, 0, none⟩ = some (.slice ad m cp) := by rw [← hV]; simp
  have H54 := h54 V BV
  have HBV := Hid.mk' BV
  have HWV : Hid (WRow V ad m W) := hW.next BV
  have HY := Hid.mk' hy
  have HNo := Hid.mk' hn
  have HLs := Hid.mk' hls
  have HLl := Hid.mk' hll
  have HLe := Hid.mk' hlen
  clear hW hy hn hls hll hlen BV h54
  go_enter Tryz.func38, Tryz.ntmps38
  go_wp2_with (go_at_call 54; refine H54.mono ?_; rintro e w1 ⟨u, rfl, A1, B1⟩; (obtain ⟨au, cu, rfl, AI⟩ := A1))
  have HA := Hid.mk' AI
  have E0 := cell_nx D0 B1
  have HB1 : Hid (Below w.heap.size w w1) := HBV.out.trans (B1.mono HBV.out.size)
  have HW1 : Hid (WRow w1 ad m W) := HWV.out.next B1
  clear H54 B1 D0 hV HBV HWV AI
  generalize w.heap.size = qw at E0 ⊢
  have BR : Hid (Below w1.heap.size w1 w1) := Below.refl _ _
  go_loopw [10] (fun i wx => ∃ r : Nat, r ≤ m ∧ i = .int .i64 r ∧ Hid (∀ r', r' < r → ∀ s, s < m → clB c m n r' s = true → W s ≠ W r') ∧ Hid (Below w1.heap.size w1 wx)) (fun i _ => m - (intOf i).toNat)
  case atStart => exact ⟨0, Nat.zero_le _, rfl, fun r' h => by omega, BR⟩
  case round =>
    obtain ⟨r, hr, rfl, HO, HB⟩ := hrel
    clear BR
    by_cases hrm : r < m
    · have i1 : (r : Int) < (m : Int) := by omega
      have i0 : (0 : Int) ≤ (r : Int) := by omega
      obtain ⟨q, o, v0, rfl, cr0, a2, c2, rfl, hc⟩ := HA.out r hrm
      have cr := cell_nx cr0 HB.out
      have WL : WRow wr a2 (lsF (clB c m n r) m).length (fun i => (lsF (clB c m n r) m).getD i 0) := fun i hi => by
        obtain ⟨g, o, h1, h2⟩ := hc i hi
        exact ⟨g, o, h1, cell_nx h2 HB.out⟩
      obtain ⟨X, hX⟩ : ∃ X, wr.alloc (.cells #[.int .i64 (r : Int)] 3) = X := ⟨_, rfl⟩
      have BX : Below wr.heap.size wr X := by rw [← hX]; exact (Below.refl _ _).alloc (Nat.le_refl _) _
      have X0 : X.cell? ⟨wr.heap.size, 0, none⟩ = some (.int .i64 (r : Int)) := by rw [← hX]; simp
      have X1 := cell_nx (cell_nx E0 HB.out) BX
      have h44 := contains44_k qw wr.heap.size a2 (lsF (clB c m n r) m).length c2 (fun i => (lsF (clB c m n r) m).getD i 0) (fun i => W ((lsF (clB c m n r) m).getD i 0).toNat == W r) X (by have := HLe.out r; omega) (WL.next BX) (fun i hi v b => by
        obtain ⟨s, h1, h2, h3⟩ := HLs.out r i hi
        show Calls Tryz.prog 63 #[.int .i64 ((lsF (clB c m n r) m).getD i 0), _, _] v _
        rw [h1, Int.toNat_natCast]
        exact same63 s r ad m cp W qw wr.heap.size v h2 hrm (cell_nx X1 b) (cell_nx X0 b) (((HW1.out.next HB.out).next BX).next b))
      have HBX : Hid (Below w1.heap.size w1 X) := HB.out.trans (BX.mono HB.out.size)
      cases ha : anyB (fun i => W ((lsF (clB c m n r) m).getD i 0).toNat == W r) (lsF (clB c m n r) m).length
      · rw [ha] at h44
        have HON : Hid (∀ r', r' < r + 1 → ∀ s, s < m → clB c m n r' s = true → W s ≠ W r') := fun r' h s hs hcl => by
          by_cases e : r' = r
          · subst e
            obtain ⟨i, hi, h1⟩ := HLl.out r' s hs hcl
            intro q
            have : anyB (fun i => W ((lsF (clB c m n r') m).getD i 0).toNat == W r') (lsF (clB c m n r') m).length = true := anyB_yes _ _ i hi (by rw [h1, Int.toNat_natCast]; simp [q])
            rw [this] at ha
            cases ha
          · exact HO.out r' (by omega) s hs hcl
        generalize (lsF (clB c m n r) m).length = ll at h44 cr
        clear ha HO WL hc cr0 X0 X1
        go_wp2_with (go_at_call 44; refine h44.mono ?_; rintro e w2 ⟨rfl, B2⟩)
        have HBN : Hid (Below w1.heap.size w1 w2) := HBX.out.trans (B2.mono HBX.out.size)
        clear h44 B2 HBX BX HB hX
        go_roundw
        case rel => exact ⟨r + 1, by omega, by go_num, HON, HBN⟩
        case measure => simp [intOf]; omega
      · rw [ha] at h44
        obtain rfl := HNo.out (fun h => by
          obtain ⟨i, hi, e⟩ := (anyB_iff _ _).1 ha
          obtain ⟨s, h1, h2, h3⟩ := HLs.out r i hi
          rw [h1, Int.toNat_natCast] at e
          exact h r hrm s h2 h3 (by simpa using e))
        generalize (lsF (clB c m n r) m).length = ll at h44 cr
        clear ha HO WL hc cr0 X0 X1
        go_wp2_with (go_at_call 44; refine h44.mono ?_; rintro e w2 ⟨rfl, B2⟩)
        go_ret
        have HBN : Below w1.heap.size w1 w2 := HBX.out.trans (B2.mono HBX.out.size)
        exact ⟨rfl, HB1.out.trans (HBN.mono HB1.out.size)⟩
    · obtain rfl : m = r := by omega
      have i1 : ¬ (m : Int) < (m : Int) := by omega
      obtain rfl := HY.out HO.out
      go_wp2
      go_ret
      exact ⟨rfl, HB1.out.trans (HB.out.mono HB1.out.size)⟩
end Go.Proofs.YtmeokhppaekhpaaGreatDoor
