/- BankTurns of both sides: the greatest number of unlike words in one bank. -/
import Derived.Test.YtfhpjcojccfcoaaSa
import Derived.Test.YtfhpjcojccfcoaaUn
import Derived.Deep.MidRow
namespace Go.Proofs.Ytfhpjcojccfcoaa
open Go.ChangeShapes Go.WideShapes Go.ChangeAt Go.RowKit
set_option linter.unusedVariables false
/-- A row of numbers as it is read, with room at its end or none. -/
def ARowC (w : World) (v : Value) (L : List Int) : Prop := ∃ ad c, v = .slice ad L.length c ∧ L.length ≤ c ∧ ∀ i, i < L.length → ∃ g o, ad = some ⟨g, o, none⟩ ∧ w.cell? ⟨g, o + i, none⟩ = some (.int .i64 (L.getD i 0))
theorem ARowC.row {w : World} {v : Value} {L : List Int} (h : ARowC w v L) : ARow w v L := by
  obtain ⟨ad, c, h1, _, h2⟩ := h
  exact ⟨ad, c, h1, h2⟩
theorem ARowC.next {w w' : World} {v : Value} {L : List Int} (h : ARowC w v L) (b : Below w.heap.size w w') : ARowC w' v L := by
  obtain ⟨ad, c, h1, h0, h2⟩ := h
  refine ⟨ad, c, h1, h0, fun i hi => ?_⟩
  obtain ⟨g, o, h3, h4⟩ := h2 i hi
  exact ⟨g, o, h3, cell_nx h4 b⟩
theorem IOwn.arowC {B : Nat} {w : World} {v : Value} {L : List Int} (h : IOwn B w v L) : ARowC w v L := by
  rcases h with ⟨rfl, rfl⟩ | ⟨g, c, rfl, hc, _, k⟩
  · exact ⟨none, 0, rfl, Nat.le_refl _, fun i hi => absurd hi (by simp)⟩
  · exact ⟨_, c, rfl, hc, fun i hi => ⟨g, 0, rfl, by rw [Nat.zero_add]; exact k.cell i hi⟩⟩
theorem own_arowC {w : World} {g n cp : Nat} {f : Nat → Int} (O : Own w g n (fun i => .int .i64 (f i))) (hc : n ≤ cp) : ARowC w (.slice (some ⟨g, 0, none⟩) n cp) (fl f n) := by
  refine ⟨some ⟨g, 0, none⟩, cp, by rw [fl_len], by rw [fl_len]; exact hc, fun i hi => ⟨g, 0, rfl, ?_⟩⟩
  rw [fl_len] at hi
  rw [fl_at f n i hi, Nat.zero_add]
  exact O.cell i hi
/-- The greatest number of unlike words in one bank. -/
def bankV (l : List Int) (b : Int) : Nat := mx (cnt b (fs l l.length)) b.toNat
/-- What may be asked. -/
def bankB (l : List Int) (b : Int) : Bool := accB l && (decide (1 ≤ b) && decide (b ≤ 64))
def bankZ (l : List Int) (b : Int) : Int := if bankB l b = true then (bankV l b : Int) else 0
theorem mem_take_succ (l : List Int) (k : Nat) (hk : k < l.length) (x : Int) : x ∈ l.take (k + 1) ↔ x ∈ l.take k ∨ l.getD k 0 = x := by
  rw [take_snoc l k hk, List.mem_append, List.mem_singleton]
  exact or_congr Iff.rfl ⟨fun h => h.symm, fun h => h.symm⟩
theorem fs_take (l : List Int) (k : Nat) (hk : k ≤ l.length) (x : Int) : x ∈ fs l k ↔ x ∈ l.take k := by
  rw [fs_mem]
  constructor
  · rintro ⟨j, h1, h2⟩
    rw [List.mem_take_iff_getElem]
    refine ⟨j, by omega, ?_⟩
    rw [← h2]
    have : j < l.length := by omega
    simp [List.getD, this]
  · intro h
    rw [List.mem_take_iff_getElem] at h
    obtain ⟨j, h1, h2⟩ := h
    have : j < l.length := by omega
    exact ⟨j, by omega, by rw [← h2]; simp [List.getD, this]⟩
theorem cnt_le (b : Int) (S : List Int) (r : Nat) : cnt b S r ≤ S.length := List.countP_le_length
theorem mx_le (g : Nat → Nat) (m : Nat) : ∀ b, (∀ r, r < b → g r ≤ m) → mx g b ≤ m
  | 0, _ => Nat.zero_le _
  | b + 1, h => by
    rw [mx]
    have := mx_le g m b (fun r hr => h r (by omega))
    have := h b (by omega)
    omega
theorem mx_zero : ∀ b, mx (fun _ => 0) b = 0
  | 0 => rfl
  | b + 1 => by rw [mx, mx_zero b]; rfl
set_option maxRecDepth 100000 in
set_option maxHeartbeats 4000000 in
theorem mbank (l : List Int) (v : Value) (b : Int) (w : World) (Q : ARowC w v l) : Calls Try.prog 13 #[v, .int .i64 b] w fun e w' => e = .returned (.tuple #[.int .i64 (bankZ l b), .bool (bankB l b)]) ∧ Below w.heap.size w w' := by
  obtain ⟨i3, hi3, hz30, hz31, hz32⟩ := info_parts info3
  have h46 := mplaces l v w Q.row
  obtain ⟨oa, oc, rfl, hoc, hoa⟩ := Q
  have HZ : Hid (bankZ l b = if bankB l b = true then (bankV l b : Int) else 0) := rfl
  have HBB : Hid (bankB l b = (accB l && (decide (1 ≤ b) && decide (b ≤ 64)))) := rfl
  generalize bankZ l b = Z at HZ ⊢
  generalize bankB l b = BB at HZ HBB ⊢
  cases hA : accB l
  case false =>
    rw [hA] at h46
    have HBF : Hid (BB = false) := by show _ = _; rw [HBB.out, hA]; rfl
    have HZ0 : Hid (Z = 0) := by show _ = _; rw [HZ.out, HBF.out]; rfl
    clear hA hoa
    go_enter Try.func13, Try.ntmps13
    go_wp2_with (go_at_call 46; refine h46.mono ?_; rintro e w2 ⟨rfl, hw⟩; subst w2)
    go_ret2
    exact ⟨by rw [HBF.out, HZ0.out]; rfl, Below.refl _ _⟩
  rw [hA] at h46
  by_cases b1 : 1 ≤ b
  case neg =>
    have b2 : b < 1 := by omega
    have HBF : Hid (BB = false) := by show _ = _; rw [HBB.out, decide_eq_false b1]; simp
    have HZ0 : Hid (Z = 0) := by show _ = _; rw [HZ.out, HBF.out]; rfl
    clear hA hoa b1
    go_enter Try.func13, Try.ntmps13
    go_wp2_with (go_at_call 46; refine h46.mono ?_; rintro e w2 ⟨rfl, hw⟩; subst w2)
    go_ret2
    exact ⟨by rw [HBF.out, HZ0.out]; rfl, Below.refl _ _⟩
  have b2 : ¬ b < 1 := by omega
  by_cases b3 : b ≤ 64
  case neg =>
    have b4 : 64 < b := by omega
    have HBF : Hid (BB = false) := by show _ = _; rw [HBB.out, decide_eq_false b3]; simp
    have HZ0 : Hid (Z = 0) := by show _ = _; rw [HZ.out, HBF.out]; rfl
    clear hA hoa b3
    go_enter Try.func13, Try.ntmps13
    go_wp2_with (go_at_call 46; refine h46.mono ?_; rintro e w2 ⟨rfl, hw⟩; subst w2)
    go_ret2
    exact ⟨by rw [HBF.out, HZ0.out]; rfl, Below.refl _ _⟩
  have b4 : ¬ 64 < b := by omega
  obtain ⟨m, rfl⟩ : ∃ m : Nat, b = (m : Int) := ⟨b.toNat, by omega⟩
  have HBT : Hid (BB = true) := by show _ = _; rw [HBB.out, hA, decide_eq_true b1, decide_eq_true b3]; rfl
  obtain ⟨hl200, hP⟩ := accB_at hA
  have HP := Hid.mk hP
  have HZ1 : Hid (Z = ((mx (cnt (m : Int) (fs l l.length)) m : Nat) : Int)) := by show _ = _; rw [HZ.out, HBT.out, if_pos rfl]; rfl
  have HOA := Hid.mk hoa
  have HFS : Hid (∀ k, k ≤ l.length → ∀ x, x ∈ fs l k ↔ x ∈ l.take k) := fs_take l
  have HMT : Hid (∀ k, k < l.length → ∀ x, x ∈ l.take (k + 1) ↔ x ∈ l.take k ∨ l.getD k 0 = x) := mem_take_succ l
  have HCL : Hid (∀ k r, k ≤ l.length → cnt (m : Int) (fs l k) r ≤ 200) := fun k r hk => Nat.le_trans (cnt_le _ _ _) (Nat.le_trans (fs_len l k) (by omega))
  have m1 : 1 ≤ m := by omega
  have m2 : m ≤ 64 := by omega
  clear hoa hP hA HBB HZ b1 b3
  obtain ⟨n, hn⟩ : ∃ n, l.length = n := ⟨_, rfl⟩
  rw [hn] at HOA HP hoc hl200 HZ1 HFS HMT HCL h46 ⊢
  clear hn
  go_enter Try.func13, Try.ntmps13
  go_wp2_with (first | (go_at_call 46; refine h46.mono ?_; rintro e w2 ⟨rfl, hw⟩; subst w2) | (at_make; refine wpList_make_full _ rfl _ _ 23 rfl w.heap.size 3 i3 (.int .i64 0) 1 Try.underlying23 hi3 hz30 hz31 _ _ _ _ m rfl rfl (by first | rfl | omega) (by first | rfl | omega) (by rw [hz32]; omega) (by unfold maxLen; omega) (by simp) ?_; intro w2 hown2 hgrow2))
  have O2 : Hid (Own w2 w.heap.size m (fun r => .int .i64 ((cnt (m : Int) (fs l 0) r : Nat) : Int))) := own_made hown2
  have B2 : Hid (Below w.heap.size w w2) := (Below.refl _ _).grown hgrow2 (Nat.le_refl _) (by simp)
  clear hown2 hgrow2 h46
  have HM0 : Hid (mx (cnt (m : Int) (fs l 0)) m = 0) := mx_zero m
  obtain ⟨z, hz⟩ : ∃ z, w.heap.size = z := ⟨_, rfl⟩
  have HZS : Hid (w.heap.size = z) := hz
  rw [hz] at O2 ⊢
  clear hz
  go_loopw [7, 28] (fun q i wr => ∃ k : Nat, k ≤ n ∧ i = .int .i64 k ∧ q = .int .i64 ((mx (cnt (m : Int) (fs l k)) m : Nat) : Int) ∧ Hid (Own wr z m (fun r => .int .i64 ((cnt (m : Int) (fs l k) r : Nat) : Int))) ∧ Hid (Below w.heap.size w wr)) (fun _ i _ => n - (intOf i).toNat)
  case atStart => exact ⟨0, Nat.zero_le _, rfl, by rw [HM0.out]; rfl, O2, B2⟩
  case round =>
    obtain ⟨k, hk, rfl, rfl, HS, HB⟩ := hrel
    clear O2 B2 HM0
    by_cases hkn : k < n
    · have j1 : (k : Int) < (n : Int) := by omega
      have j0 : (0 : Int) ≤ (k : Int) := by omega
      have jc : (k : Int) ≤ (oc : Int) := by omega
      obtain ⟨g, o, rfl, hc0⟩ := HOA.out k hkn
      have hc := cell_nx hc0 HB.out
      have hp := HP.out k hkn
      have HF2 := Hid.mk (HFS.out k hk (l.getD k 0))
      have HFE : Hid (fs l (k + 1) = (if l.getD k 0 ∈ fs l k then fs l k else fs l k ++ [l.getD k 0])) := by show fs l (k + 1) = _; rw [fs]
      have HC0 : Hid (∀ r, cnt (m : Int) (fs l k) r ≤ 200) := fun r => HCL.out k r hk
      have HMX : Hid (∀ r, r < m → cnt (m : Int) (fs l k) r ≤ mx (cnt (m : Int) (fs l k)) m) := fun r hr => mx_ge _ m r hr
      have HML : mx (cnt (m : Int) (fs l k)) m ≤ 200 := mx_le _ _ _ (fun r _ => HC0.out r)
      have HOB : Hid (∀ j, j < k → ∃ v, wr.cell? ⟨g, o + j, none⟩ = some (.int .i64 (l.getD j 0))) := fun j hj => by
        obtain ⟨g', o', e1, e2⟩ := HOA.out j (by omega)
        injection e1 with e1
        injection e1 with e1 e3
        subst e1; subst e3
        exact ⟨0, cell_nx e2 HB.out⟩
      generalize l.getD k 0 = x at hc hp HF2 HFE
      obtain ⟨r, hr, hr1, hr2⟩ : ∃ r : Nat, x.tmod (m : Int) = (r : Int) ∧ r < m ∧ x % (m : Int) = (r : Int) := by
        have e := Int.tmod_eq_emod_of_nonneg (a := x) (b := (m : Int)) hp.1
        have a1 := Int.emod_nonneg x (b := (m : Int)) (by omega)
        have a2 := Int.emod_lt_of_pos x (b := (m : Int)) (by omega)
        exact ⟨(x % (m : Int)).toNat, by omega, by omega, by omega⟩
      have HR2 : Hid (x % (m : Int) = (r : Int)) := hr2
      have hr1i : (r : Int) < (m : Int) := by omega
      have hr0 : (0 : Int) ≤ (r : Int) := by omega
      have hm0 : ¬ (m : Int) = 0 := by omega
      have HXb := Hid.mk hp
      clear hc0 hr2 hp
      have hd0 : Hid (decide (x ∈ l.take 0) = false) := by show _ = _; simp
      go_wp2
      go_loop [10, 37] (fun h i => ∃ j : Nat, j ≤ k ∧ i = .int .i64 j ∧ h = .bool (decide (x ∈ l.take j))) (fun _ i => k - (intOf i).toNat)
      case atStart => exact ⟨0, Nat.zero_le _, rfl, by rw [hd0.out]⟩
      case round =>
        obtain ⟨j, hj, rfl, rfl⟩ := hrel
        by_cases hjk : j < k
        · have i1 : (j : Int) < (k : Int) := by omega
          have i0 : (0 : Int) ≤ (j : Int) := by omega
          obtain ⟨_, hcj⟩ := HOB.out j hjk
          have HM2 := Hid.mk (HMT.out j (by omega) x)
          generalize l.getD j 0 = y at hcj HM2
          by_cases hh : x ∈ l.take j
          · have HT : Hid (decide (x ∈ l.take (j + 1)) = true) := decide_eq_true (HM2.out.2 (Or.inl hh))
            rw [decide_eq_true hh]
            clear hh HM2
            go_wp2
            go_round
            case rel => exact ⟨j + 1, by omega, by go_num, by rw [HT.out]⟩
            case measure => simp [intOf]; omega
          · rw [decide_eq_false hh]
            have HT : Hid (decide (x ∈ l.take (j + 1)) = (y == x)) := by
              show _ = _
              rw [Bool.eq_iff_iff, decide_eq_true_eq, HM2.out, beq_iff_eq]
              exact ⟨fun q => q.resolve_left hh, Or.inr⟩
            clear hh HM2
            go_wp2
            go_round
            case rel => exact ⟨j + 1, by omega, by go_num, by rw [HT.out]⟩
            case measure => simp [intOf]; omega
        · obtain rfl : k = j := by omega
          have i1 : ¬ (k : Int) < (k : Int) := by omega
          by_cases hh : x ∈ l.take k
          · rw [decide_eq_true hh]
            have HE : Hid (fs l (k + 1) = fs l k) := by show _ = _; rw [HFE.out, if_pos (HF2.out.2 hh)]
            clear hh
            go_wp2
            go_roundw
            case rel => exact ⟨k + 1, by omega, by go_num, by rw [HE.out], by show Own _ _ _ _; rw [HE.out]; exact HS.out, HB⟩
            case measure => simp [intOf]; omega
          · rw [decide_eq_false hh]
            have HE : Hid (fs l (k + 1) = fs l k ++ [x]) := by show _ = _; rw [HFE.out, if_neg (fun q => hh (HF2.out.1 q))]
            have HCN : Hid (∀ r', cnt (m : Int) (fs l (k + 1)) r' = if r' = r then cnt (m : Int) (fs l k) r' + 1 else cnt (m : Int) (fs l k) r') := fun r' => by
              rw [HE.out, cnt_snoc, HR2.out]
              by_cases e : r' = r
              · subst e; rw [if_pos rfl, if_pos rfl]
              · rw [if_neg (by omega), if_neg e]
            have HMN : Hid (mx (cnt (m : Int) (fs l (k + 1))) m = max (mx (cnt (m : Int) (fs l k)) m) (cnt (m : Int) (fs l k) r + 1)) := mx_inc _ _ r m hr1 (fun y _ => HCN.out y)
            have c1 := HS.out.cell r hr1
            have f1 := HS.out.free r
            have cb := HC0.out r
            have SN : Hid (∀ q, q = cnt (m : Int) (fs l k) r + 1 → Own (wr.setCell ⟨z, r, none⟩ (.int .i64 (q : Int))) z m (fun r => .int .i64 ((cnt (m : Int) (fs l (k + 1)) r : Nat) : Int))) := fun q hq => HS.out.set r _ hr1 (fun i hi => by
              rw [HCN.out]
              by_cases e : i = r
              · subst e; rw [if_pos rfl, if_pos rfl, hq]
              · rw [if_neg e, if_neg e])
            have BN : Hid (∀ q : Nat, Below w.heap.size w (wr.setCell ⟨z, r, none⟩ (.int .i64 (q : Int)))) := fun q => HB.out.setCell (p := ⟨z, r, none⟩) (by have := HZS.out; show _ ≤ z; omega) _
            have HMXr := HMX.out r hr1
            clear hh HF2 HFE HS HB
            generalize mx (cnt (m : Int) (fs l k)) m = M at HML HMN HMXr ⊢
            generalize cnt (m : Int) (fs l k) r = q at c1 cb HMN SN HMXr
            have SN1 := Hid.mk (SN.out (q + 1) rfl)
            have BN1 := Hid.mk (BN.out (q + 1))
            have cs : (wr.setCell ⟨z, r, none⟩ (.int .i64 ((q + 1 : Nat) : Int))).cell? ⟨z, r, none⟩ = some (.int .i64 ((q + 1 : Nat) : Int)) := World.cell?_setCell_same' _ _ _ (by rw [c1]; rfl)
            have qe : ((q + 1 : Nat) : Int) = (q : Int) + 1 := by omega
            rw [qe] at SN1 BN1 cs
            clear SN BN qe
            by_cases hgt : (M : Int) < (q : Int) + 1
            · have HM3 : Hid ((max M (q + 1) : Nat) = q + 1) := by show _ = _; omega
              go_wp2
              go_roundw
              case rel => exact ⟨k + 1, by omega, by go_num, by rw [HMN.out, HM3.out]; rfl, SN1, BN1⟩
              case measure => simp [intOf]; omega
            · have HM3 : Hid ((max M (q + 1) : Nat) = M) := by show _ = _; omega
              go_wp2
              go_roundw
              case rel => exact ⟨k + 1, by omega, by go_num, by rw [HMN.out, HM3.out], SN1, BN1⟩
              case measure => simp [intOf]; omega
    · obtain rfl : n = k := by omega
      have j1 : ¬ (n : Int) < (n : Int) := by omega
      go_wp2
      go_ret2
      exact ⟨by rw [HBT.out, HZ1.out]; rfl, HB.out⟩
end Go.Proofs.Ytfhpjcojccfcoaa
