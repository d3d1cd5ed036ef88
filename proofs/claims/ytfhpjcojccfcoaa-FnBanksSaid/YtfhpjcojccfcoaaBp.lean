/- The program's BankTurns. -/
import Derived.Test.YtfhpjcojccfcoaaBk
namespace Go.Proofs.Ytfhpjcojccfcoaa
open Go.ChangeShapes Go.WideShapes Go.ChangeAt Go.RowKit
set_option linter.unusedVariables false
theorem srt_nodup (l : List Int) : (srt l).Nodup := (srt_asc l).imp (fun h => by omega)
theorem bank_srt (l : List Int) (m c : Nat) (m1 : 1 ≤ m) (m2 : m ≤ c) : mx (cnt (m : Int) (fs l l.length)) m = mx (cnt (m : Int) (srt l)) c := by
  rw [mx_more (cnt (m : Int) (srt l)) m c m2 (fun r hr _ => by
    unfold cnt
    rw [List.countP_eq_zero]
    intro x _ h
    have := Int.emod_lt_of_pos x (b := (m : Int)) (by omega)
    simp at h
    omega)]
  refine mx_ext m (fun r _ => cnt_same (fs_nodup l _) (srt_nodup l) (fun x => ?_) r)
  rw [fs_take l _ (Nat.le_refl _), List.take_length, srt_mem]
theorem own_zero (w : World) (A : Array Value) (n : Nat) (t : TypeId) (h : A = Array.replicate n (.int .i64 0)) : Own (w.alloc (.cells A t)) w.heap.size n (fun _ => .int .i64 0) := by
  subst h
  refine ⟨fun i hi => ?_, fun i => ?_, by simp⟩
  · simp [hi]
  · simp
theorem max_mx (g : Nat → Nat) : ∀ n, 0 < n → Lib.maxOf ((List.range n).map (fun i => ((g i : Nat) : Int))) = ((mx g n : Nat) : Int)
  | 0, h => absurd h (Nat.lt_irrefl _)
  | 1, _ => by simp [Lib.maxOf, mx]
  | n + 2, _ => by
    have ih := max_mx g (n + 1) (Nat.succ_pos _)
    unfold Lib.maxOf at ih ⊢
    rw [List.range_succ, List.map_append, List.foldl_append]
    have e : ((List.range (n + 1)).map (fun i => ((g i : Nat) : Int)) ++ [n + 1].map (fun i => ((g i : Nat) : Int))).headD 0 = ((List.range (n + 1)).map (fun i => ((g i : Nat) : Int))).headD 0 := by
      rw [List.range_succ_eq_map]; rfl
    have e2 : mx g (n + 2) = max (mx g (n + 1)) (g (n + 1)) := rfl
    rw [e, ih, e2]
    simp
    omega
set_option maxRecDepth 100000 in
set_option maxHeartbeats 1000000 in
theorem pbank (l : List Int) (v : Value) (b : Int) (w : World) (Q : ARow w v l) (hsm : l.length ≤ 1048576) : Calls Try.prog 12 #[v, .int .i64 b] w fun e w' => e = .returned (.tuple #[.int .i64 (bankZ l b), .bool (bankB l b)]) ∧ Below w.heap.size w w' := by
  have h43 := paccs l v w Q hsm
  have HQ := Hid.mk Q
  obtain ⟨oa, oc, rfl, hoa⟩ := Q
  have HZ : Hid (bankZ l b = if bankB l b = true then (bankV l b : Int) else 0) := rfl
  have HBB : Hid (bankB l b = (accB l && (decide (1 ≤ b) && decide (b ≤ 64)))) := rfl
  generalize bankZ l b = Z at HZ ⊢
  generalize bankB l b = BB at HZ HBB ⊢
  cases hA : accB l
  case false =>
    rw [hA] at h43
    have HBF : Hid (BB = false) := by show _ = _; rw [HBB.out, hA]; rfl
    have HZ0 : Hid (Z = 0) := by show _ = _; rw [HZ.out, HBF.out]; rfl
    clear hA hoa HQ
    go_enter Try.func12, Try.ntmps12
    go_wp2_with (go_at_call 43; refine h43.mono ?_; rintro e w2 ⟨rfl, B2⟩)
    go_ret2
    exact ⟨by rw [HBF.out, HZ0.out]; rfl, B2⟩
  rw [hA] at h43
  by_cases b1 : 1 ≤ b
  case neg =>
    have b2 : b < 1 := by omega
    have HBF : Hid (BB = false) := by show _ = _; rw [HBB.out, decide_eq_false b1]; simp
    have HZ0 : Hid (Z = 0) := by show _ = _; rw [HZ.out, HBF.out]; rfl
    clear hA hoa b1 HQ
    go_enter Try.func12, Try.ntmps12
    go_wp2_with (go_at_call 43; refine h43.mono ?_; rintro e w2 ⟨rfl, B2⟩)
    go_ret2
    exact ⟨by rw [HBF.out, HZ0.out]; rfl, B2⟩
  have b2 : ¬ b < 1 := by omega
  by_cases b3 : b ≤ 64
  case neg =>
    have b4 : 64 < b := by omega
    have HBF : Hid (BB = false) := by show _ = _; rw [HBB.out, decide_eq_false b3]; simp
    have HZ0 : Hid (Z = 0) := by show _ = _; rw [HZ.out, HBF.out]; rfl
    clear hA hoa b3 HQ
    go_enter Try.func12, Try.ntmps12
    go_wp2_with (go_at_call 43; refine h43.mono ?_; rintro e w2 ⟨rfl, B2⟩)
    go_ret2
    exact ⟨by rw [HBF.out, HZ0.out]; rfl, B2⟩
  have b4 : ¬ 64 < b := by omega
  obtain ⟨m, rfl⟩ : ∃ m : Nat, b = (m : Int) := ⟨b.toNat, by omega⟩
  have HBT : Hid (BB = true) := by show _ = _; rw [HBB.out, hA, decide_eq_true b1, decide_eq_true b3]; rfl
  obtain ⟨hl200, hP⟩ := accB_at hA
  have m1 : 1 ≤ m := by omega
  have m2 : m ≤ 64 := by omega
  have HU : Hid (∀ w', Below w.heap.size w w' → Calls Try.prog 44 #[.slice oa l.length oc, .slice none 0 0] w' fun e w'' => ∃ z, e = .returned z ∧ IOwn w'.heap.size w'' z (srt l) ∧ Below w'.heap.size w' w'') := fun w' bb => by
    have := union46 (.slice oa l.length oc) (.slice none 0 0) l [] w' (by simp; omega) (HQ.out.next bb) ⟨none, 0, rfl, fun i hi => absurd hi (by simp)⟩
    rwa [List.append_nil] at this
  have HSB : Hid (∀ x, x ∈ srt l → 0 ≤ x ∧ x ≤ 1000000) := fun x hx => by
    rw [srt_mem] at hx
    obtain ⟨i, hi, rfl⟩ := List.getElem_of_mem hx
    have := hP i hi
    rwa [show l.getD i 0 = l[i] by simp [List.getD, hi]] at this
  have HSL : Hid ((srt l).length ≤ 200) := Nat.le_trans (srt_len l) hl200
  have HV : Hid (Z = ((mx (cnt (m : Int) (srt l)) 64 : Nat) : Int)) := by
    show _ = _
    rw [HZ.out, HBT.out, if_pos rfl]
    exact congrArg Int.ofNat (bank_srt l m 64 m1 m2)
  clear hoa hP hA HBB HZ b1 b3 HQ
  generalize srt l = S at HU HSB HSL HV
  go_enter Try.func12, Try.ntmps12
  go_wp2_with (first | (go_at_call 43; refine h43.mono ?_; rintro e w2 ⟨rfl, B2⟩) | (go_at_call 44; refine (HU.out _ (B2.alloc B2.size _)).mono ?_; rintro e w3 ⟨z3, rfl, I3, B3⟩; (have I3b := I3.lt); (obtain ⟨a3, c3, rfl, hc3⟩ := I3.arow)))
  have O3 : Hid (Own w3 w2.heap.size 64 (fun r => .int .i64 ((cnt (m : Int) (S.take 0) r : Nat) : Int))) := (own_zero w2 _ 64 70 (by rfl)).next B3
  have HB3 : Hid (Below w.heap.size w w3) := (B2.alloc B2.size _).trans (B3.mono (B2.alloc B2.size _).size)
  have HC3 : Hid (∀ i, i < S.length → ∃ g o, a3 = some ⟨g, o, none⟩ ∧ w3.cell? ⟨g, o + i, none⟩ = some (.int .i64 (S.getD i 0)) ∧ g ≠ w2.heap.size) := fun i hi => by
    obtain ⟨g, o, h1, h2⟩ := hc3 i hi
    have h3 := I3b g (by rw [h1]; rfl)
    exact ⟨g, o, h1, h2, by have h4 : (w2.alloc _).heap.size ≤ g := h3; rw [World.size_alloc] at h4; omega⟩
  have HBS : Hid (w.heap.size ≤ w2.heap.size) := B2.size
  clear B2 B3 I3 I3b hc3 HU h43
  obtain ⟨n, hn⟩ : ∃ n, S.length = n := ⟨_, rfl⟩
  have HN : Hid (S.length = n) := hn
  have n2 : n ≤ 200 := by have := HSL.out; omega
  rw [hn] at HC3 ⊢
  generalize w2.heap.size = z at O3 HBS HC3 ⊢
  clear hn
  go_loopw [23] (fun i wr => ∃ k : Nat, k ≤ n ∧ i = .int .i64 k ∧ Hid (Own wr z 64 (fun r => .int .i64 ((cnt (m : Int) (S.take k) r : Nat) : Int))) ∧ Hid (Below w.heap.size w wr) ∧ Hid (Only z w3 wr)) (fun i _ => n - (intOf i).toNat)
  case atStart => exact ⟨0, Nat.zero_le _, rfl, O3, HB3, Only.refl _ _⟩
  case round =>
    obtain ⟨k, hk, rfl, HS, HB, HO⟩ := hrel
    clear O3 HB3
    by_cases hkn : k < n
    · have j1 : (k : Int) < (n : Int) := by omega
      have j0 : (0 : Int) ≤ (k : Int) := by omega
      obtain ⟨g, o, rfl, hc0, hgz⟩ := HC3.out k hkn
      have hc : wr.cell? ⟨g, o + k, none⟩ = some (.int .i64 (S.getD k 0)) := (World.cell?_of_block (w := w3) (a := ⟨g, o + k, none⟩) (HO.out.block g (World.block_lt_of_cell? _ _ hc0) hgz)).trans hc0
      have hkS : k < S.length := by have := HN.out; omega
      have hp := HSB.out (S.getD k 0) (by simp [List.getD, hkS])
      have HTK : Hid (S.take (k + 1) = S.take k ++ [S.getD k 0]) := take_snoc S k hkS
      have HC0 : Hid (∀ r, cnt (m : Int) (S.take k) r ≤ 200) := fun r => Nat.le_trans (cnt_le _ _ _) (by rw [List.length_take]; omega)
      generalize S.getD k 0 = x at hc hp HTK
      obtain ⟨r, hr, hr1, hr2⟩ : ∃ r : Nat, x.tmod (m : Int) = (r : Int) ∧ r < m ∧ x % (m : Int) = (r : Int) := by
        have e := Int.tmod_eq_emod_of_nonneg (a := x) (b := (m : Int)) hp.1
        have a1 := Int.emod_nonneg x (b := (m : Int)) (by omega)
        have a2 := Int.emod_lt_of_pos x (b := (m : Int)) (by omega)
        exact ⟨(x % (m : Int)).toNat, by omega, by omega, by omega⟩
      have HR2 : Hid (x % (m : Int) = (r : Int)) := hr2
      have hr1i : (r : Int) < 64 := by omega
      have hr0 : (0 : Int) ≤ (r : Int) := by omega
      have hm0 : ¬ (m : Int) = 0 := by omega
      have c1 := HS.out.cell r (by omega)
      have f1 := HS.out.free r
      have cb := HC0.out r
      have SN : Hid (Own (wr.setCell ⟨z, r, none⟩ (.int .i64 ((cnt (m : Int) (S.take k) r : Nat) + 1))) z 64 (fun r => .int .i64 ((cnt (m : Int) (S.take (k + 1)) r : Nat) : Int))) := HS.out.set r _ (by omega) (fun i hi => by
        rw [HTK.out, cnt_snoc, HR2.out]
        by_cases e : i = r
        · subst e; rw [if_pos rfl, if_pos rfl]; rfl
        · rw [if_neg e, if_neg (by omega)])
      have BN : Hid (∀ q : Int, Below w.heap.size w (wr.setCell ⟨z, r, none⟩ (.int .i64 q))) := fun q => HB.out.setCell (p := ⟨z, r, none⟩) HBS.out _
      have ON : Hid (∀ q : Int, Only z w3 (wr.setCell ⟨z, r, none⟩ (.int .i64 q))) := fun q => HO.out.setCell _ _
      clear hc0 hr2 hp HS HB HO HTK HC0
      generalize cnt (m : Int) (S.take k) r = q at c1 cb SN
      go_wp2
      go_roundw
      case rel => exact ⟨k + 1, by omega, by go_num, SN, BN.out _, ON.out _⟩
      case measure => simp [intOf]; omega
    · obtain rfl : n = k := by omega
      have j1 : ¬ (n : Int) < (n : Int) := by omega
      have HC := Hid.mk HS.out
      have h45 := Try.slices_Max_int z 0 64 64 ((List.range 64).map (fun i => ((cnt (m : Int) S i : Nat) : Int))) wr (by omega) (by simp) (by omega) (fun j hj => by
        have hj' : j < 64 := by simpa using hj
        rw [Nat.zero_add, HS.out.cell j hj', List.take_of_length_le (by rw [HN.out]; exact Nat.le_refl _)]
        simp [List.getD, hj'])
      rw [List.take_of_length_le (by simp), max_mx _ 64 (by omega)] at h45
      obtain ⟨M, hM⟩ : ∃ M, ((mx (cnt (m : Int) S) 64 : Nat) : Int) = M := ⟨_, rfl⟩
      have HM : Hid (((mx (cnt (m : Int) S) 64 : Nat) : Int) = M) := hM
      rw [hM] at h45
      clear hM HC HS
      go_wp2_with (go_at_call 45; refine h45.mono ?_; rintro e w2 ⟨rfl, hw⟩; subst w2)
      go_ret2
      exact ⟨by rw [HBT.out, HV.out, HM.out]; rfl, HB.out⟩
end Go.Proofs.Ytfhpjcojccfcoaa
