/- Sets of numbers as rising lists: sorted and made compact, looked up, some left out, joined; the program's union, leavingOut, clashingBy, livingAhead. Lists joined to one, rising: the program's union, and what clashes by an instruction, what lives ahead of it. Sets by bools and their rising lists; who clashes, step by step; rows of rows in the making. No function of the program is spoken of here. -/
import Derived.Test.YtmeokhppaekhpaaGreatDoorIss
import Derived.Test.YtmeokhppaekhpaaGreatDoorShelf
import Derived.Lib.AppendZeros
namespace Go.Proofs.YtmeokhppaekhpaaGreatDoor
open Go.ChangeShapes Go.WideShapes Go.ChangeAt Go.RowKit
set_option linter.unusedVariables false
theorem asc_ext : ∀ (l l' : List Int), l.Pairwise (· < ·) → l'.Pairwise (· < ·) → (∀ y, y ∈ l ↔ y ∈ l') → l = l'
  | [], [], _, _, _ => rfl
  | [], y :: r, _, _, h => absurd ((h y).2 (by simp)) (by simp)
  | x :: r, [], _, _, h => absurd ((h x).1 (by simp)) (by simp)
  | x :: r, y :: s, hx, hy, h => by
    rw [List.pairwise_cons] at hx hy
    have h1 := (h x).1 (by simp)
    have h2 := (h y).2 (by simp)
    have e : x = y := by
      rcases List.mem_cons.1 h1 with e | e
      · exact e
      · rcases List.mem_cons.1 h2 with e2 | e2
        · exact e2.symm
        · have := hy.1 x e; have := hx.1 y e2; omega
    subst e
    rw [asc_ext r s hx.2 hy.2 (fun z => ⟨fun hz => ?_, fun hz => ?_⟩)]
    · rcases List.mem_cons.1 ((h z).1 (List.mem_cons_of_mem _ hz)) with e | e
      · subst e; have := hx.1 z hz; omega
      · exact e
    · rcases List.mem_cons.1 ((h z).2 (List.mem_cons_of_mem _ hz)) with e | e
      · subst e; have := hy.1 z hz; omega
      · exact e
theorem insU_asc (x : Int) : ∀ l : List Int, l.Pairwise (· < ·) → (insU x l).Pairwise (· < ·)
  | [], _ => by simp [insU]
  | y :: r, h => by
    have h' := List.pairwise_cons.1 h
    unfold insU
    split
    · rename_i hyx
      rw [List.pairwise_cons]
      refine ⟨fun z hz => ?_, insU_asc x r h'.2⟩
      rcases (insU_mem x z r).1 hz with rfl | hz
      · exact hyx
      · exact h'.1 z hz
    · split
      · exact h
      · rw [List.pairwise_cons]
        refine ⟨fun z hz => ?_, h⟩
        rcases List.mem_cons.1 hz with rfl | hz
        · omega
        · have := h'.1 z hz; omega
theorem srt_ascA : ∀ (l acc : List Int), acc.Pairwise (· < ·) → (l.foldl (fun l x => insU x l) acc).Pairwise (· < ·)
  | [], acc, h => h
  | x :: l, acc, h => srt_ascA l (insU x acc) (insU_asc x acc h)
theorem srt_asc (l : List Int) : (srt l).Pairwise (· < ·) := srt_ascA l [] List.Pairwise.nil
theorem compact_asc (d : Array Int) (hd : ∀ i j, i ≤ j → j < d.size → d[i]! ≤ d[j]!) : ∀ m, m ≤ d.size → (Lib.compactUpTo d m).Pairwise (· < ·) ∧ (∀ y, y ∈ Lib.compactUpTo d m ↔ ∃ j, j < m ∧ y = d[j]!)
  | 0, _ => by simp [Lib.compactUpTo]
  | m + 1, hm => by
    obtain ⟨h1, h2⟩ := compact_asc d hd m (by omega)
    rw [Lib.compactUpTo_succ]
    by_cases hk : Lib.keeps d m = true
    · rw [if_pos hk]
      have hk' : m = 0 ∨ d[m]! ≠ d[m - 1]! := by simpa [Lib.keeps] using hk
      refine ⟨?_, fun y => ?_⟩
      · rw [List.pairwise_append]
        refine ⟨h1, by simp, fun a ha b hb => ?_⟩
        obtain ⟨j, hj, rfl⟩ := (h2 a).1 ha
        obtain rfl : b = d[m]! := by simpa using hb
        have e1 := hd j (m - 1) (by omega) (by omega)
        have e2 := hd (m - 1) m (by omega) (by omega)
        have := hk'.resolve_left (by omega)
        omega
      · rw [List.mem_append, h2]
        constructor
        · rintro (⟨j, hj, rfl⟩ | h)
          · exact ⟨j, by omega, rfl⟩
          · exact ⟨m, by omega, by simpa using h⟩
        · rintro ⟨j, hj, rfl⟩
          by_cases e : j = m
          · subst e; right; simp
          · exact Or.inl ⟨j, by omega, rfl⟩
    · rw [if_neg hk, List.append_nil]
      refine ⟨h1, fun y => ?_⟩
      have hk' : ¬ (m = 0 ∨ d[m]! ≠ d[m - 1]!) := by simpa [Lib.keeps] using hk
      rw [h2]
      constructor
      · rintro ⟨j, hj, rfl⟩; exact ⟨j, by omega, rfl⟩
      · rintro ⟨j, hj, rfl⟩
        by_cases e : j = m
        · subst e
          refine ⟨j - 1, by omega, ?_⟩
          have : ¬ d[j]! ≠ d[j - 1]! := fun h => hk' (Or.inr h)
          exact Decidable.not_not.1 this
        · exact ⟨j, by omega, rfl⟩
/-- What is sorted and then made compact. -/
theorem srt_is (L : List Int) : Lib.compact (L.mergeSort fun x y => decide (x ≤ y)) = srt L := by
  have hp := List.mergeSort_perm L (fun x y => decide (x ≤ y))
  have hs : (L.mergeSort fun x y => decide (x ≤ y)).Pairwise (fun a b => (decide (a ≤ b)) = true) := List.pairwise_mergeSort (fun a b c h1 h2 => by simp at *; omega) (fun a b => by simp; omega) L
  generalize L.mergeSort (fun x y => decide (x ≤ y)) = S at hp hs
  have hd : ∀ i j, i ≤ j → j < S.toArray.size → S.toArray[i]! ≤ S.toArray[j]! := by
    intro i j hij hj
    have hj' : j < S.length := by simpa using hj
    by_cases e : i = j
    · subst e; exact Int.le_refl _
    · have := List.pairwise_iff_getElem.1 hs i j (by omega) hj' (by omega)
      simpa [getElem!_pos, hj', (show i < S.length by omega)] using this
  obtain ⟨h1, h2⟩ := compact_asc S.toArray hd S.length (by simp)
  refine asc_ext _ _ h1 (srt_asc L) (fun y => ?_)
  unfold Lib.compact
  rw [h2, srt_mem, ← hp.mem_iff]
  constructor
  · rintro ⟨j, hj, rfl⟩
    simp [getElem!_pos, hj]
  · intro hy
    obtain ⟨j, hj, rfl⟩ := List.getElem_of_mem hy
    exact ⟨j, hj, by simp [getElem!_pos, hj]⟩
theorem only_setCells (g : Nat) : ∀ (vs : List Value) (j : Nat) (a w : World), Only g a w → Only g a (w.setCells g j vs)
  | [], _, _, _, h => h
  | v :: r, j, a, w, h => only_setCells g r (j + 1) a _ (h.setCell j v)
theorem own_setCellsI {w : World} {g n : Nat} {f : Nat → Value} (O : Own w g n f) (ys : List Int) (hy : ys.length = n) : Own (w.setCells g 0 (ys.map (Value.int .i64))) g n (fun i => .int .i64 (ys.getD i 0)) := by
  refine ⟨fun i hi => ?_, fun i => ?_, Nat.lt_of_lt_of_le O.hi (only_setCells g _ 0 w w (Only.refl _ _)).size⟩
  · have h := World.cell?_setCells_in g (ys.map (Value.int .i64)) 0 w (fun j hj => by rw [Nat.zero_add, O.cell j (by simpa [hy] using hj)]; rfl) i (by simpa [hy] using hi)
    rw [Nat.zero_add] at h
    rw [h]
    have hi' : i < ys.length := by omega
    simp [List.getD, hi']
  · rw [World.frozen?_setCells]; exact O.free i
theorem below_grow (w : World) (os : Array Obj) : Below w.heap.size w (Sort.grow w os) := by
  refine ⟨rfl, rfl, rfl, by simp [Sort.grow], fun k hk => ?_⟩
  show (w.heap ++ os)[k]? = w.heap[k]?
  exact Array.getElem?_append_left hk
def srtd (L : List Int) : List Int := L.mergeSort fun x y => decide (x ≤ y)
theorem srtd_len (L : List Int) : (srtd L).length = L.length := List.length_mergeSort L
theorem sort73 (B g c : Nat) (L : List Int) (w : World) (O : Own w g L.length (fun i => .int .i64 (L.getD i 0))) (hB : B ≤ g) (hl : L.length ≤ 5000) : Calls Tryz.prog 111 #[.slice (some ⟨g, 0, none⟩) L.length c] w fun e w' => e = .returned (.tuple #[]) ∧ Own w' g L.length (fun i => .int .i64 ((srtd L).getD i 0)) ∧ Below B w w' := by
  have hH : Sort.Holds (Value.int .i64) w g 0 L.toArray := by
    have := Lib.holds_of_ints (w := w) (b := g) (off := 0) (n := L.length) (zs := L) (Nat.le_refl _) (fun j hj => by rw [Nat.zero_add]; exact O.cell j hj) (fun j hj => by rw [Nat.zero_add]; exact O.free j)
    rwa [List.take_of_length_le (Nat.le_refl _)] at this
  refine (Tryz.slices_Sort_int g 0 c L w hH O.hi (by omega)).mono ?_
  rintro e w' ⟨rfl, n, os, rfl⟩
  have E := Lib.putRow_eq_setCells (Value.int .i64) w g 0 L.toArray (srtd L) n hH (by rw [srtd_len]; simp)
  have E' : Sort.putRow (Value.int .i64) (Sort.ahead w n) g 0 (L.mergeSort fun x y => decide (x ≤ y)).toArray = (w.drewN n).setCells g 0 ((srtd L).map (Value.int .i64)) := E
  rw [E']
  have O1 := own_setCellsI (O.drewN n) (srtd L) (srtd_len L)
  have B0 := below_grow ((w.drewN n).setCells g 0 ((srtd L).map (Value.int .i64))) os
  refine ⟨rfl, O1.next B0, ?_⟩
  have U : Only g w ((w.drewN n).setCells g 0 ((srtd L).map (Value.int .i64))) := only_setCells g _ 0 w _ ((Only.refl g w).drewN n)
  have hs : B ≤ w.heap.size := Nat.le_trans hB (Nat.le_of_lt O.hi)
  exact (U.below hB hs).trans (B0.mono (Nat.le_trans hs U.size))
theorem compact74 (B g c : Nat) (L : List Int) (w : World) (O : Own w g L.length (fun i => .int .i64 ((srtd L).getD i 0))) (hB : B ≤ g) (hl : L.length ≤ 5000) (hc : L.length ≤ c) : Calls Tryz.prog 112 #[.slice (some ⟨g, 0, none⟩) L.length c] w fun e w' => ∃ v, e = .returned v ∧ IOwn B w' v (srt L) ∧ Below B w w' := by
  have hH := Tryz.slices_Compact_int_cells g 0 L.length c (srtd L) w (by rw [srtd_len]; exact Nat.le_refl _) (by omega) hc (fun j hj => by rw [Nat.zero_add]; exact O.cell j (by rw [← srtd_len]; exact hj)) (fun j hj => by rw [Nat.zero_add]; exact O.free j)
  rw [List.take_of_length_le (by rw [srtd_len]; exact Nat.le_refl _)] at hH
  rw [show Lib.compact (srtd L) = srt L from srt_is L] at hH
  refine hH.mono ?_
  rintro e w' ⟨rfl, q, rfl⟩
  have hle := srt_len L
  obtain ⟨ys, hys⟩ : ∃ ys, srt L ++ List.replicate (L.length - (srt L).length) 0 = ys := ⟨_, rfl⟩
  have hyl : ys.length = L.length := by rw [← hys]; simp; omega
  rw [hys]
  have O1 := own_setCellsI (O.drewN q) ys hyl
  refine ⟨_, rfl, Or.inr ⟨g, c, rfl, by omega, hB, O1.mono hle (fun i hi => ?_)⟩, ?_⟩
  · show Value.int .i64 ((srt L).getD i 0) = Value.int .i64 (ys.getD i 0)
    rw [← hys]
    simp [List.getD, List.getElem?_append_left hi]
  · exact (only_setCells g _ 0 w _ ((Only.refl g w).drewN q)).below hB (Nat.le_trans hB (Nat.le_of_lt O.hi))
/-- A place tells whether it is there. -/
def IxB (z : Int) (b : Bool) : Prop := decide (0 ≤ z) = b
set_option maxRecDepth 100000 in
set_option maxHeartbeats 2000000 in
theorem index85 (ad : Option Addr) (cp : Nat) (L : List Int) (x : Int) (w : World) (hn : L.length ≤ 5000) (hL : ∀ i, i < L.length → ∃ g o, ad = some ⟨g, o, none⟩ ∧ w.cell? ⟨g, o + i, none⟩ = some (.int .i64 (L.getD i 0))) : Calls Tryz.prog 126 #[.slice ad L.length cp, .int .i64 x] w fun e w' => (∃ z : Int, e = .returned (.int .i64 z) ∧ IxB z (decide (x ∈ L))) ∧ w' = w := by
  have HL := Hid.mk hL
  clear hL
  obtain ⟨n, hn2⟩ : ∃ n, L.length = n := ⟨_, rfl⟩
  have HN : Hid (L.length = n) := hn2
  rw [hn2] at hn ⊢
  clear hn2
  go_enter Tryz.func126, Tryz.ntmps126
  go_wp2
  go_loop [8] (fun i => ∃ k : Nat, k ≤ n ∧ i = .int .i64 k ∧ Hid (∀ j, j < k → L.getD j 0 ≠ x)) (fun i => n - (intOf i).toNat)
  case atStart => exact ⟨0, Nat.zero_le _, rfl, fun j hj => by omega⟩
  case round =>
    obtain ⟨k, hk, rfl, HK⟩ := hrel
    by_cases hkn : k < n
    · have i1 : (k : Int) < (n : Int) := by omega
      have i0 : (0 : Int) ≤ (k : Int) := by omega
      have hkl : k < L.length := by rw [HN.out]; exact hkn
      obtain ⟨g, o, rfl, ck⟩ := HL.out k hkl
      obtain ⟨y, hy⟩ : ∃ y, L.getD k 0 = y := ⟨_, rfl⟩
      have HY : Hid (L.getD k 0 = y) := hy
      rw [hy] at ck
      clear hy
      by_cases e : x = y
      · have he : (x == y) = true := by simp [e]
        have HM : Hid (IxB (k : Int) (decide (x ∈ L))) := by
          have : x ∈ L := by rw [e, ← HY.out]; simp [List.getD, hkl]
          show decide (0 ≤ (k : Int)) = _
          rw [decide_eq_true this, decide_eq_true i0]
        clear e
        go_wp2
        go_ret
        exact ⟨⟨_, rfl, HM.out⟩, rfl⟩
      · have he : (x == y) = false := by simp [e]
        have HKN : Hid (∀ j, j < k + 1 → L.getD j 0 ≠ x) := fun j hj => by
          by_cases q : j = k
          · subst q; rw [HY.out]; exact fun z => e z.symm
          · exact HK.out j (by omega)
        clear e HK
        go_wp2
        go_round
        case rel => exact ⟨k + 1, by omega, by go_num, HKN⟩
        case measure => simp [intOf]; omega
    · obtain rfl : n = k := by omega
      have i1 : ¬ (n : Int) < (n : Int) := by omega
      have HM : Hid (IxB (-1 : Int) (decide (x ∈ L))) := by
        have : ¬ x ∈ L := fun h => by
          obtain ⟨j, hj, h2⟩ := List.getElem_of_mem h
          exact HK.out j (by rw [← HN.out]; exact hj) (by simp [List.getD, hj, h2])
        show decide (0 ≤ (-1 : Int)) = _
        rw [decide_eq_false this]
        rfl
      go_wp2
      go_ret
      exact ⟨⟨_, rfl, HM.out⟩, rfl⟩
set_option maxRecDepth 100000 in
theorem has75 (u : Value) (L : List Int) (x : Int) (w : World) (hn : L.length ≤ 5000) (hL : ARow w u L) : Calls Tryz.prog 113 #[u, .int .i64 x] w fun e w' => e = .returned (.bool (decide (x ∈ L))) ∧ w' = w := by
  obtain ⟨ad, cp, rfl, hc⟩ := hL
  have h85 := index85 ad cp L x w hn hc
  generalize decide (x ∈ L) = b at h85 ⊢
  clear hc
  go_enter Tryz.func113, Tryz.ntmps113
  go_wp2_with (go_at_call 126; refine h85.mono ?_; rintro e w1 ⟨⟨z, rfl, hz0⟩, hw⟩; subst w1; (have hz : decide (0 ≤ z) = b := hz0))
  go_ret
  exact ⟨by first | (rw [← hz]; rfl) | (subst hz; rfl) | (simp only [← hz]; rfl), rfl⟩
/-- What is in a list but for some. -/
def lvO (M L : List Int) : List Int := L.filter fun y => !decide (y ∈ M)
theorem lvO_mem (M L : List Int) (y : Int) : y ∈ lvO M L ↔ y ∈ L ∧ y ∉ M := by simp [lvO]
theorem lvO_len (M L : List Int) : (lvO M L).length ≤ L.length := List.length_filter_le _ _
theorem lvO_take (M L : List Int) (k : Nat) (hk : k < L.length) : lvO M (L.take (k + 1)) = lvO M (L.take k) ++ (if decide (L.getD k 0 ∈ M) then [] else [L.getD k 0]) := by
  unfold lvO
  rw [take_snoc L k hk, List.filter_append]
  congr 1
  cases h : decide (L.getD k 0 ∈ M)
  · simp only [List.filter, h, Bool.not_false, Bool.false_eq_true, if_false]
  · simp only [List.filter, h, Bool.not_true, if_true]
set_option maxRecDepth 100000 in
set_option maxHeartbeats 4000000 in
theorem leaving49 (u v : Value) (L M : List Int) (w : World) (hn : L.length ≤ 5000) (hm : M.length ≤ 5000) (hL : ARow w u L) (hM : ARow w v M) : Calls Tryz.prog 85 #[u, v] w fun e w' => ∃ z, e = .returned z ∧ IOwn w.heap.size w' z (lvO M L) ∧ Below w.heap.size w w' := by
  obtain ⟨i3, hi3, hz30, hz31, hz32⟩ := info_parts info3
  obtain ⟨ad, cp, rfl, hc⟩ := hL
  have HL := Hid.mk hc
  have H75 : Hid (∀ v', Below w.heap.size w v' → ∀ x, Calls Tryz.prog 113 #[v, .int .i64 x] v' fun e w' => e = .returned (.bool (decide (x ∈ M))) ∧ w' = v') := fun v' b x => has75 v M x v' hm (hM.next b)
  obtain ⟨n, hn2⟩ : ∃ n, L.length = n := ⟨_, rfl⟩
  have HN : Hid (L.length = n) := hn2
  rw [hn2] at hn ⊢
  have HE : Hid (lvO M (L.take n) = lvO M L) := by show _ = _; rw [List.take_of_length_le (by omega)]
  clear hn2 hc hM
  go_enter Tryz.func85, Tryz.ntmps85
  go_wp2
  go_loopw [5, 10] (fun vv i wr => ∃ (k : Nat) (u : Value), k ≤ n ∧ i = .int .i64 k ∧ u = vv ∧ Hid (Ri w.heap.size wr u (lvO M (L.take k))) ∧ Hid (Below w.heap.size w wr)) (fun _ i _ => n - (intOf i).toNat)
  case atStart => exact ⟨0, _, by omega, rfl, rfl, ⟨World.ownsRow_nil _ _ _ _, Nat.le_refl _⟩, Below.refl _ _⟩
  case round =>
    obtain ⟨k, u, hk, rfl, rfl, HU, HB⟩ := hrel
    by_cases hkn : k < n
    · have i1 : (k : Int) < (n : Int) := by omega
      have i0 : (0 : Int) ≤ (k : Int) := by omega
      have hkl : k < L.length := by rw [HN.out]; exact hkn
      obtain ⟨g, o, rfl, ck0⟩ := HL.out k hkl
      have ck := cell_nx ck0 HB.out
      have HC : Hid (lvO M (L.take (k + 1)) = lvO M (L.take k) ++ (if decide (L.getD k 0 ∈ M) then [] else [L.getD k 0])) := lvO_take M L k hkl
      have HLn : Hid ((lvO M (L.take k)).length ≤ 5000) := by have h1 := lvO_len M (L.take k); have h2 := List.length_take_le k L; show _ ≤ _; omega
      generalize L.getD k 0 = y at ck HC
      have h75 := H75.out wr HB.out y
      generalize decide (y ∈ M) = bb at h75 HC
      generalize lvO M (L.take k) = Q at HU HC HLn
      clear ck0
      cases bb
      · have HC : Hid (lvO M (L.take (k + 1)) = Q ++ [y]) := HC
        go_wp2_with (first | (go_at_call 113; refine h75.mono ?_; rintro e w1 ⟨rfl, hw⟩; subst w1) | (at_builtin; refine wpList_append_own _ rfl _ _ 24 rfl w.heap.size 3 i3 (.int .i64 0) 1 8 Tryz.underlying24 hi3 hz30 hz31 hz32 rfl (by decide) _ _ _ rfl (HU.out.alloc _).1 ⟨_, 0, none⟩ 1 1 [.int .i64 y] rfl rfl ?_ ?_ ?_ ?_ ?_ ?_))
        · intro j u hj
          match j, hj with
          | 0, hj => simp at hj; subst hj; simp [Addr.add]
        · intro u hu; simp at hu; subst hu; rfl
        · have := HLn.out; unfold maxLen; omega
        · have := HLn.out; omega
        · have := HB.out.size; simp at *; omega
        intro v3 w3 hown hgrow _
        have B3 : Hid (Below w.heap.size w w3) := (HB.out.alloc (by have := HB.out.size; omega) _).grown hgrow (by have := HB.out.size; simp at *; omega) (fun q hq => (HU.out.lt q hq).1)
        have U3 : Hid (Ri w.heap.size w3 v3 (lvO M (L.take (k + 1)))) := by
          show Ri _ _ _ _
          rw [HC.out]
          refine ⟨?_, B3.out.size⟩
          rw [List.length_append, il_app]
          exact hown
        clear hown hgrow HU HB
        go_wp2
        go_roundw
        case rel => exact ⟨k + 1, _, by omega, by go_num, rfl, U3, B3⟩
        case measure => simp [intOf]; omega
      · have HC : Hid (lvO M (L.take (k + 1)) = Q) := by have := HC.out; show _ = _; rw [this]; simp
        have U3 : Hid (Ri w.heap.size wr u (lvO M (L.take (k + 1)))) := by show Ri _ _ _ _; rw [HC.out]; exact HU.out
        clear HU
        go_wp2_with (go_at_call 113; refine h75.mono ?_; rintro e w1 ⟨rfl, hw⟩; subst w1)
        go_roundw
        case rel => exact ⟨k + 1, _, by omega, by go_num, rfl, U3, HB⟩
        case measure => simp [intOf]; omega
    · obtain rfl : k = n := by omega
      have i1 : ¬ (k : Int) < (k : Int) := by omega
      have IE : Hid (IOwn w.heap.size wr u (lvO M L)) := by show IOwn _ _ _ _; rw [← HE.out]; exact HU.out.own
      clear HU
      go_wp2
      go_ret
      exact ⟨_, rfl, IE.out, HB.out⟩
set_option maxRecDepth 100000 in
set_option maxHeartbeats 4000000 in
theorem grow82 (n : Nat) (w : World) (hn : n ≤ 10000) : Calls Tryz.prog 123 #[.slice none 0 0, .int .i64 (n : Int)] w fun e w' => ∃ v, e = .returned v ∧ w'.ownsRow w.heap.size 3 1 v 0 [] ∧ Below w.heap.size w w' := by
  obtain ⟨i3, hi3, hz30, hz31, hz32⟩ := info_parts info3
  by_cases h0 : n = 0
  · subst h0
    go_enter Tryz.func123, Tryz.ntmps123
    go_wp2
    go_ret
    exact ⟨_, rfl, World.ownsRow_nil _ _ _ _, Below.refl _ _⟩
  · have n1 : (0 : Int) < (n : Int) := by omega
    have happ := Lib.run_append_nil_zeros (P := Tryz.prog) w 24 3 24 3 i3 (.int .i64 0) .i64 .i64 Tryz.underlying24 Tryz.underlying3 hi3 hz30 n (by omega) (by omega) (by omega) (by rw [hz32]; omega)
    generalize hcap : grownCap w n 0 3 = cap2 at happ
    have hcapge : n ≤ cap2 := by rw [← hcap]; exact grownCap_ge w _ 0 3
    have hcaple : cap2 ≤ maxLen := by rw [← hcap]; exact grownCap_le_maxLen w _ 0 3 (by unfold maxLen; omega)
    generalize hZ : (Builtin.zeroCells (Value.int .i64 0).cells n ++ Builtin.zeroCells (Value.int .i64 0).cells (cap2 - n)) = Z at happ
    have hZs : Z.size = cap2 := by rw [← hZ]; simp [size_zeroCells, Value.cells]; omega
    have hO : Hid ((w.drew.alloc (.cells Z 3)).ownsRow w.heap.size 3 1 (.slice (some ⟨w.heap.size, 0, none⟩) 0 cap2) 0 []) := World.ownsRow_made (base := w.heap.size) w.drew Z cap2 (Nat.le_refl _) hcaple (by rw [hZs]; omega)
    have hB : Hid (Below w.heap.size w (w.drew.alloc (.cells Z 3))) := (below_drew (Below.refl _ _)).alloc (Nat.le_refl _) _
    obtain ⟨w2, hw2⟩ : ∃ w2, w.drew.alloc (.cells Z 3) = w2 := ⟨_, rfl⟩
    rw [hw2] at happ hO hB
    have c0 : (0 : Int) ≤ (cap2 : Int) := by omega
    have c1 : (0 : Int) ≤ (n : Int) := by omega
    clear hw2 hZ hZs hcap
    go_enter Tryz.func123, Tryz.ntmps123
    go_wp2_with (at_builtin; refine Lib.wpList_append_run _ rfl _ _ _ _ rfl _ _ rfl rfl _ _ happ ?_)
    go_ret
    exact ⟨_, rfl, hO.out, hB.out⟩
end Go.Proofs.YtmeokhppaekhpaaGreatDoor
namespace Go.Proofs.YtmeokhppaekhpaaGreatDoor
open Go.ChangeShapes Go.WideShapes Go.ChangeAt Go.RowKit
set_option linter.unusedVariables false
/-- Lists one behind the other. -/
def catL (f : Nat → List Int) : Nat → List Int
  | 0 => []
  | k + 1 => catL f k ++ f k
theorem cat_len (f : Nat → List Int) : ∀ k, (catL f k).length = offs (fun x => (f x).length) k
  | 0 => rfl
  | k + 1 => by rw [catL, List.length_append, cat_len f k, offs]
theorem run_append_none {P : Program} (w : World) (t ty e : TypeId) (i : TypeInfo) (ht : P.underlying t = some (.slice e)) (hi : P.info? e = some i) (a b : Option Addr) (n cap c : Nat) (h : n ≤ cap) : (Builtin.append_ #[t, t] ty #[.slice a n cap, .slice b 0 c]).run P w = .ok (.slice a n cap) w := by
  cases a <;> cases b <;> simp [Builtin.append_, run_underlying ht, sizeOf, typeInfo, hi, Builtin.lenOf, h, Builtin.firstCells, storeCells, loadCells, loadCellsFrom]
set_option maxRecDepth 100000 in
set_option maxHeartbeats 8000000 in
theorem concat72 (m : Nat) (f : Nat → List Int) (u : Value) (w : World) (hm : m ≤ 600) (hU : ARows w u m f) (hT : offs (fun x => (f x).length) m ≤ 5000) : Calls Tryz.prog 110 #[u] w fun e w' => ∃ v, e = .returned v ∧ IOwn w.heap.size w' v (catL f m) ∧ Below w.heap.size w w' := by
  obtain ⟨i3, hi3, hz30, hz31, hz32⟩ := info_parts info3
  obtain ⟨ad, cp, rfl, hc⟩ := hU
  have HR := Hid.mk hc
  have HO : Hid (∀ k, k ≤ m → offs (fun x => (f x).length) k ≤ 5000) := fun k hk => Nat.le_trans (offs_mono _ hk) hT
  have HS : Hid (∀ k, offs (fun x => (f x).length) (k + 1) = offs (fun x => (f x).length) k + (f k).length) := fun k => rfl
  have HCl : Hid (∀ k, (catL f k).length = offs (fun x => (f x).length) k) := cat_len f
  generalize offs (fun x => (f x).length) = T at hT HO HS HCl
  have HT0 : Hid (T 0 = 0) := by show _ = _; rw [← HCl.out]; rfl
  clear hc
  go_enter Tryz.func110, Tryz.ntmps110
  go_wp2
  go_loop [3, 11] (fun q i => ∃ k : Nat, k ≤ m ∧ i = .int .i64 k ∧ q = .int .i64 ((T k : Nat) : Int)) (fun _ i => m - (intOf i).toNat)
  case atStart => exact ⟨0, Nat.zero_le _, rfl, by rw [HT0.out]; rfl⟩
  case round =>
    obtain ⟨k, hk, rfl, rfl⟩ := hrel
    by_cases hkn : k < m
    · have i1 : (k : Int) < (m : Int) := by omega
      have i0 : (0 : Int) ≤ (k : Int) := by omega
      obtain ⟨g, o, uu, rfl, ck, a2, c2, rfl, _⟩ := HR.out k hkn
      have h1 := HO.out k (by omega)
      have h2 := HO.out (k + 1) (by omega)
      have h3 := HS.out k
      obtain ⟨z, hz⟩ : ∃ z, T (k + 1) = z := ⟨_, rfl⟩
      have HZ : Hid (T (k + 1) = z) := hz
      rw [hz] at h2 h3
      have HZ2 : Hid (z = T k + (f k).length) := h3
      generalize (f k).length = y at ck h3 HZ2
      generalize T k = x at h1 h3 HZ2 ⊢
      have z1 : ¬ ((x : Int) + (y : Int)) < 0 := by omega
      have hy : y ≤ 5000 := by omega
      clear hz h3
      go_wp2
      go_round
      case rel => exact ⟨k + 1, by omega, by go_num, by rw [HZ.out, HZ2.out]; first | rfl | simp⟩
      case measure => simp [intOf]; omega
    · obtain rfl : m = k := by omega
      have i1 : ¬ (m : Int) < (m : Int) := by omega
      have h1 := HO.out m (Nat.le_refl _)
      have h82 := grow82 (T m) w (by omega)
      go_wp2_with (go_at_call 123; refine h82.mono ?_; rintro e w1 ⟨v1, rfl, O1, B1⟩)
      have R1 : Hid (Ri w.heap.size w1 v1 (catL f 0)) := ⟨O1, B1.size⟩
      have HB1 : Hid (Below w.heap.size w w1) := B1
      clear O1 B1 h82
      go_loopw [6, 27] (fun vv i wr => ∃ (k : Nat) (u : Value), k ≤ m ∧ i = .int .i64 k ∧ u = vv ∧ Hid (Ri w.heap.size wr u (catL f k)) ∧ Hid (Below w.heap.size w wr)) (fun _ i _ => m - (intOf i).toNat)
      case atStart => exact ⟨0, _, Nat.zero_le _, rfl, rfl, R1, HB1⟩
      case round =>
        obtain ⟨k, u, hk, rfl, rfl, HU, HB⟩ := hrel
        clear R1 HB1
        by_cases hkn : k < m
        · have i1 : (k : Int) < (m : Int) := by omega
          have i0 : (0 : Int) ≤ (k : Int) := by omega
          obtain ⟨g, o, uu, rfl, ck0, a2, c2, rfl, hc2⟩ := HR.out k hkn
          have ck := cell_nx ck0 HB.out
          have HC : Hid (catL f (k + 1) = catL f k ++ f k) := rfl
          have HLn : Hid ((catL f k).length + (f k).length ≤ 5000) := by show _ ≤ _; rw [HCl.out, ← HS.out]; exact HO.out (k + 1) (by omega)
          have HCC : Hid (∀ j, j < (f k).length → ∃ g o, a2 = some ⟨g, o, none⟩ ∧ w.cell? ⟨g, o + j, none⟩ = some (.int .i64 ((f k).getD j 0))) := hc2
          generalize catL f k = Q at HU HC HLn
          generalize f k = A at ck HC HLn HCC
          clear ck0 hc2
          by_cases eA : A = []
          · subst eA
            have HC : Hid (catL f (k + 1) = Q) := by have := HC.out; show _ = _; rw [this]; simp
            have U3 : Hid (Ri w.heap.size wr u (catL f (k + 1))) := by show Ri _ _ _ _; rw [HC.out]; exact HU.out
            obtain ⟨au, cu, hu, hcu⟩ : ∃ au cu, u = .slice au Q.length cu ∧ Q.length ≤ cu := by
              rcases HU.out.1.2 with ⟨hv, h0⟩ | ⟨gg, cap, cur, hv, _, _, h3, _⟩
              · exact ⟨none, 0, by rw [hv, h0], by omega⟩
              · exact ⟨_, _, hv, h3⟩
            subst hu
            have happ := run_append_none (P := Tryz.prog) wr 24 24 3 i3 Tryz.underlying24 hi3 au a2 Q.length cu c2 hcu
            simp only [List.length_nil] at ck
            clear HU
            go_wp2_with (at_builtin; refine Lib.wpList_append_run _ rfl _ _ _ _ rfl _ _ rfl rfl _ _ happ ?_)
            go_roundw
            case rel => exact ⟨k + 1, _, by omega, by go_num, rfl, U3, HB⟩
            case measure => simp [intOf]; omega
          · have hA := List.length_pos_iff.2 eA
            obtain ⟨ga, oa, rfl, _⟩ := HCC.out 0 hA
            have HCD : Hid (∀ j, j < A.length → wr.cell? ⟨ga, oa + j, none⟩ = some (.int .i64 (A.getD j 0))) := fun j hj => by
              obtain ⟨g', o', h1, h2⟩ := HCC.out j hj
              injection h1 with h1
              injection h1 with h1 h3
              subst h1
              subst h3
              exact cell_nx h2 HB.out
            go_wp2_with (at_builtin; refine wpList_append_own _ rfl _ _ 24 rfl w.heap.size 3 i3 (.int .i64 0) 1 8 Tryz.underlying24 hi3 hz30 hz31 hz32 rfl (by decide) _ _ _ rfl HU.out.1 ⟨ga, oa, none⟩ A.length c2 (il A) rfl ?c0 ?c1 ?c2 ?c3 ?c4 ?c5 ?_)
            case c0 => simp [il]
            case c1 =>
              intro j u hj
              have hjl : j < A.length := by have := (List.getElem?_eq_some_iff.1 hj).1; simpa [il] using this
              rw [Addr.add_lit, HCD.out j hjl]
              simp [il, hjl] at hj
              rw [← hj]
              simp [List.getD, hjl]
            case c2 =>
              intro u hu
              simp [il] at hu
              obtain ⟨_, _, rfl⟩ := hu
              rfl
            case c3 => have := HLn.out; (try unfold maxLen); omega
            case c4 => have := HLn.out; omega
            case c5 => have := HB.out.size; omega
            intro v3 w3 hown hgrow _
            have B3 : Hid (Below w.heap.size w w3) := HB.out.grown hgrow HB.out.size (fun q hq => (HU.out.lt q hq).1)
            have U3 : Hid (Ri w.heap.size w3 v3 (catL f (k + 1))) := by
              show Ri _ _ _ _
              rw [HC.out]
              refine ⟨?_, B3.out.size⟩
              rw [List.length_append, il_app]
              exact hown
            clear hown hgrow HU HB
            go_wp2
            go_roundw
            case rel => exact ⟨k + 1, _, by omega, by go_num, rfl, U3, B3⟩
            case measure => simp [intOf]; omega
        · obtain rfl : m = k := by omega
          have i1 : ¬ (m : Int) < (m : Int) := by omega
          have IE : Hid (IOwn w.heap.size wr u (catL f m)) := HU.out.own
          clear HU
          go_wp2
          go_ret
          exact ⟨_, rfl, IE.out, HB.out⟩
def two (A B : List Int) : Nat → List Int := fun i => if i = 0 then A else B
theorem cat_two (A B : List Int) : catL (two A B) 2 = A ++ B := by simp [catL, two]
set_option maxRecDepth 100000 in
set_option maxHeartbeats 4000000 in
theorem union46 (u v : Value) (A B : List Int) (w : World) (hn : A.length + B.length ≤ 5000) (hA : ARow w u A) (hB : ARow w v B) : Calls Tryz.prog 82 #[u, v] w fun e w' => ∃ z, e = .returned z ∧ IOwn w.heap.size w' z (srt (A ++ B)) ∧ Below w.heap.size w w' := by
  obtain ⟨a1, c1, hu, _⟩ := id hA
  obtain ⟨a2, c2, hv, _⟩ := id hB
  have BA : Below w.heap.size w (w.alloc (.cells #[u, v] 24)) := (Below.refl _ _).alloc (Nat.le_refl _) _
  have AR : ARows (w.alloc (.cells #[u, v] 24)) (.slice (some ⟨w.heap.size, 0, none⟩) 2 2) 2 (two A B) := ⟨_, _, rfl, fun i hi => by
    rcases (show i = 0 ∨ i = 1 by omega) with rfl | rfl
    · exact ⟨w.heap.size, 0, u, rfl, by simp, hA.next BA⟩
    · exact ⟨w.heap.size, 0, v, rfl, by simp, hB.next BA⟩⟩
  have h72 := concat72 2 (two A B) _ _ (by omega) AR (by simp [offs, two]; omega)
  rw [cat_two] at h72
  have HBA : Hid (Below w.heap.size w (w.alloc (.cells #[u, v] 24))) := BA
  have hl : (A ++ B).length ≤ 5000 := by rw [List.length_append]; exact hn
  rw [hu, hv] at h72 HBA ⊢
  generalize A ++ B = L at h72 hl ⊢
  clear hA hB AR BA hu hv
  go_enter Tryz.func82, Tryz.ntmps82
  go_wp2_with (go_at_call 110; refine h72.mono ?_; rintro e w1 ⟨v1, rfl, I1, B1⟩)
  have HB1 : Hid (Below w.heap.size w w1) := HBA.out.trans (B1.mono HBA.out.size)
  have I1' : IOwn w.heap.size w1 v1 L := I1.low HBA.out.size
  clear B1 h72 HBA I1
  rcases I1' with ⟨rfl, rfl⟩ | ⟨g, cp, rfl, h1, h2, O1⟩
  · have h73 : Calls Tryz.prog 111 #[.slice none 0 0] w1 fun e w' => e = .returned (.tuple #[]) ∧ w' = w1 := Tryz.slices_Sort_int_none none 0 w1
    have h74 : Calls Tryz.prog 112 #[.slice none 0 0] w1 fun e w' => e = .returned (.slice none 0 0) ∧ w' = w1 := Tryz.slices_Compact_int_empty none 0 w1
    go_wp2_with (first | (go_at_call 111; refine h73.mono ?_; rintro e w2 ⟨rfl, hw⟩; subst w2) | (go_at_call 112; refine h74.mono ?_; rintro e w2 ⟨rfl, hw⟩; subst w2))
    go_ret
    exact ⟨_, rfl, Or.inl ⟨rfl, rfl⟩, HB1.out⟩
  · have h73 := sort73 w.heap.size g cp L w1 O1 h2 hl
    have H74 : Hid (∀ v, Own v g L.length (fun i => .int .i64 ((srtd L).getD i 0)) → Calls Tryz.prog 112 #[.slice (some ⟨g, 0, none⟩) L.length cp] v fun e w' => ∃ z, e = .returned z ∧ IOwn w.heap.size w' z (srt L) ∧ Below w.heap.size v w') := fun v O => compact74 w.heap.size g cp L v O h2 hl h1
    go_wp2_with (first | (go_at_call 111; refine h73.mono ?_; rintro e w2 ⟨rfl, O2, B2⟩) | (go_at_call 112; refine (H74.out w2 O2).mono ?_; rintro e w3 ⟨z, rfl, I3, B3⟩))
    go_ret
    exact ⟨_, rfl, I3, (HB1.out.trans B2).trans B3⟩
/-- What an instruction leaves out of what clashes by it. -/
def goL (o d a : Int) : List Int := if o = 2 then [d, a] else [d]
set_option maxRecDepth 100000 in
set_option maxHeartbeats 4000000 in
theorem clashing47 (o d a b c x : Int) (u : Value) (L : List Int) (w : World) (hn : L.length ≤ 5000) (hL : ARow w u L) : Calls Tryz.prog 83 #[.agg #[.int .i64 o, .int .i64 d, .int .i64 a, .int .i64 b, .int .i64 c, .int .u32 x], u] w fun e w' => ∃ z, e = .returned z ∧ IOwn w.heap.size w' z (lvO (goL o d a) L) ∧ Below w.heap.size w w' := by
  have BA : Below w.heap.size w (w.alloc (.cells #[.int .i64 o, .int .i64 d, .int .i64 a, .int .i64 b, .int .i64 c, .int .u32 x] 51)) := (Below.refl _ _).alloc (Nat.le_refl _) _
  obtain ⟨W, hW⟩ : ∃ W, w.alloc (.cells #[.int .i64 o, .int .i64 d, .int .i64 a, .int .i64 b, .int .i64 c, .int .u32 x] 51) = W := ⟨_, rfl⟩
  have d0 : W.cell? ⟨w.heap.size, 0, none⟩ = some (.int .i64 o) := by rw [← hW]; simp
  have d1 : W.cell? ⟨w.heap.size, 1, none⟩ = some (.int .i64 d) := by rw [← hW]; simp
  have d2 : W.cell? ⟨w.heap.size, 2, none⟩ = some (.int .i64 a) := by rw [← hW]; simp
  rw [hW] at BA
  by_cases ho : o = 2
  · have hg : goL o d a = [d, a] := by unfold goL; rw [if_pos ho]
    have B2 : Below W.heap.size W (W.alloc (.cells #[.int .i64 d, .int .i64 a] 3)) := (Below.refl _ _).alloc (Nat.le_refl _) _
    have R2 : ARow (W.alloc (.cells #[.int .i64 d, .int .i64 a] 3)) (.slice (some ⟨W.heap.size, 0, none⟩) 2 2) [d, a] := IRow.arow (Or.inr ⟨_, 2, rfl, Nat.le_refl _, ints_new W [d, a]⟩)
    have h49 := leaving49 u _ L [d, a] _ hn (by simp) ((hL.next BA).next B2) R2
    have HBB : Hid (Below w.heap.size w (W.alloc (.cells #[.int .i64 d, .int .i64 a] 3))) := BA.trans (B2.mono BA.size)
    have ho2 : (o == 2) = true := by simp [ho]
    rw [hg]
    clear ho hL BA B2 R2 hg
    go_enter Tryz.func83, Tryz.ntmps83
    go_wp2_with (go_at_call 85; refine h49.mono ?_; rintro e w1 ⟨z, rfl, I1, B1⟩)
    go_ret
    exact ⟨_, rfl, I1.low HBB.out.size, HBB.out.trans (B1.mono HBB.out.size)⟩
  · have hg : goL o d a = [d] := by unfold goL; rw [if_neg ho]
    have B2 : Below W.heap.size W (W.alloc (.cells #[.int .i64 d] 3)) := (Below.refl _ _).alloc (Nat.le_refl _) _
    have R2 : ARow (W.alloc (.cells #[.int .i64 d] 3)) (.slice (some ⟨W.heap.size, 0, none⟩) 1 1) [d] := IRow.arow (Or.inr ⟨_, 1, rfl, Nat.le_refl _, ints_new W [d]⟩)
    have h49 := leaving49 u _ L [d] _ hn (by simp) ((hL.next BA).next B2) R2
    have HBB : Hid (Below w.heap.size w (W.alloc (.cells #[.int .i64 d] 3))) := BA.trans (B2.mono BA.size)
    have ho2 : (o == 2) = false := by simp [ho]
    rw [hg]
    clear ho hL BA B2 R2 hg
    go_enter Tryz.func83, Tryz.ntmps83
    go_wp2_with (go_at_call 85; refine h49.mono ?_; rintro e w1 ⟨z, rfl, I1, B1⟩)
    go_ret
    exact ⟨_, rfl, I1.low HBB.out.size, HBB.out.trans (B1.mono HBB.out.size)⟩
/-- What lives ahead of an instruction, by what lives behind it. -/
def ahL (o d a b c x : Int) (L : List Int) : List Int := srt ((if nmd o 0 then lvO [d] L else L) ++ opsL o a b c x)
set_option maxRecDepth 100000 in
set_option maxHeartbeats 4000000 in
theorem ahead48 (o d a b c x : Int) (u : Value) (L : List Int) (w : World) (G : Forms w) (x0 : 0 ≤ x) (x1 : x < 4294967296) (ho : 1 ≤ o ∧ o ≤ 13) (h4 : o = 4 → 1 ≤ ar (calW x)) (hn : L.length ≤ 4000) (hL : ARow w u L) : Calls Tryz.prog 84 #[.agg #[.int .i64 o, .int .i64 d, .int .i64 a, .int .i64 b, .int .i64 c, .int .u32 x], u] w fun e w' => ∃ z, e = .returned z ∧ IOwn w.heap.size w' z (ahL o d a b c x L) ∧ Below w.heap.size w w' := by
  have BA : Below w.heap.size w (w.alloc (.cells #[.int .i64 o, .int .i64 d, .int .i64 a, .int .i64 b, .int .i64 c, .int .u32 x] 51)) := (Below.refl _ _).alloc (Nat.le_refl _) _
  obtain ⟨W, hW⟩ : ∃ W, w.alloc (.cells #[.int .i64 o, .int .i64 d, .int .i64 a, .int .i64 b, .int .i64 c, .int .u32 x] 51) = W := ⟨_, rfl⟩
  have D0 : W.cell? ⟨w.heap.size, 0, none⟩ = some (.int .i64 o) := by rw [← hW]; simp
  have D1 : W.cell? ⟨w.heap.size, 1, none⟩ = some (.int .i64 d) := by rw [← hW]; simp
  have D2 : W.cell? ⟨w.heap.size, 2, none⟩ = some (.int .i64 a) := by rw [← hW]; simp
  have D3 : W.cell? ⟨w.heap.size, 3, none⟩ = some (.int .i64 b) := by rw [← hW]; simp
  have D4 : W.cell? ⟨w.heap.size, 4, none⟩ = some (.int .i64 c) := by rw [← hW]; simp
  have D5 : W.cell? ⟨w.heap.size, 5, none⟩ = some (.int .u32 x) := by rw [← hW]; simp
  rw [hW] at BA
  have HBA := Hid.mk BA
  have HG := Hid.mk G
  have h45 := writes85 o W
  have H41 : Hid (∀ v, Below w.heap.size w v → Calls Tryz.prog 58 #[.agg #[.int .i64 o, .int .i64 d, .int .i64 a, .int .i64 b, .int .i64 c, .int .u32 x]] v fun e w' => ∃ v', e = .returned v' ∧ IOwn v.heap.size w' v' (opsL o a b c x) ∧ Below v.heap.size v w') := fun v bb => operands38 o d a b c x v (G.below bb) x0 x1 ho h4
  have HOl : Hid ((opsL o a b c x).length ≤ 3) := opsL_len o a b c x
  have HLL := Hid.mk hL
  unfold ahL
  generalize opsL o a b c x = M at H41 HOl ⊢
  cases hw : nmd o 0
  · rw [hw] at h45
    simp only [Bool.false_eq_true, if_false]
    clear hw hL BA G ho h4
    go_enter Tryz.func84, Tryz.ntmps84
    go_wp2_with (first | (go_at_call 57; refine h45.mono ?_; rintro e w1 ⟨rfl, B1⟩; (have e0 := cell_nx D0 B1); (have e1 := cell_nx D1 B1); (have e2 := cell_nx D2 B1); (have e3 := cell_nx D3 B1); (have e4 := cell_nx D4 B1); (have e5 := cell_nx D5 B1); (have F1 : Hid (Below w.heap.size w w1) := HBA.out.trans (B1.mono HBA.out.size))) | (go_at_call 58; refine (H41.out w1 F1.out).mono ?_; rintro e w2 ⟨z2, rfl, I2, B2⟩; (have h46 := union46 u z2 L M w2 (by have := HOl.out; omega) ((HLL.out.next F1.out).next B2) I2.arow)) | (go_at_call 82; refine h46.mono ?_; rintro e w3 ⟨z3, rfl, I3, B3⟩))
    go_ret
    have F2 : Below w.heap.size w w2 := F1.out.trans (B2.mono F1.out.size)
    exact ⟨_, rfl, I3.low F2.size, F2.trans (B3.mono F2.size)⟩
  · rw [hw] at h45
    simp only [if_true]
    clear hw hL BA G ho h4
    go_enter Tryz.func84, Tryz.ntmps84
    go_wp2_with (first | (go_at_call 57; refine h45.mono ?_; rintro e w1 ⟨rfl, B1⟩; (have e0 := cell_nx D0 B1); (have e1 := cell_nx D1 B1); (have e2 := cell_nx D2 B1); (have e3 := cell_nx D3 B1); (have e4 := cell_nx D4 B1); (have e5 := cell_nx D5 B1); (have F1 : Hid (Below w.heap.size w w1) := HBA.out.trans (B1.mono HBA.out.size)); (obtain ⟨w2, hw2⟩ : ∃ w2, w1.alloc (.cells #[.int .i64 d] 3) = w2 := ⟨_, rfl⟩); (have B2 : Below w1.heap.size w1 w2 := by rw [← hw2]; exact (Below.refl _ _).alloc (Nat.le_refl _) _); (have R2 : ARow w2 (.slice (some ⟨w1.heap.size, 0, none⟩) 1 1) [d] := by rw [← hw2]; exact IRow.arow (Or.inr ⟨_, 1, rfl, Nat.le_refl _, ints_new w1 [d]⟩)); (have h49 := leaving49 u _ L [d] w2 (by omega) (by simp) ((HLL.out.next F1.out).next B2) R2); (have F2 : Hid (Below w.heap.size w w2) := F1.out.trans (B2.mono F1.out.size))) | (go_at_call 85; refine h49.mono ?_; rintro e w3 ⟨z3, rfl, I3, B3⟩; (have F3 : Hid (Below w.heap.size w w3) := F2.out.trans (B3.mono F2.out.size)); (have q0 := cell_nx (cell_nx e0 B2) B3); (have q1 := cell_nx (cell_nx e1 B2) B3); (have q2 := cell_nx (cell_nx e2 B2) B3); (have q3 := cell_nx (cell_nx e3 B2) B3); (have q4 := cell_nx (cell_nx e4 B2) B3); (have q5 := cell_nx (cell_nx e5 B2) B3)) | (go_at_call 58; refine (H41.out w3 F3.out).mono ?_; rintro e w4 ⟨z4, rfl, I4, B4⟩; (have h46 := union46 z3 z4 (lvO [d] L) M w4 (by have := HOl.out; have := lvO_len [d] L; omega) (I3.next B4).arow I4.arow)) | (go_at_call 82; refine h46.mono ?_; rintro e w5 ⟨z5, rfl, I5, B5⟩))
    go_ret
    have F4 : Below w.heap.size w w4 := F3.out.trans (B4.mono F3.out.size)
    exact ⟨_, rfl, I5.low F4.size, F4.trans (B5.mono F4.size)⟩
end Go.Proofs.YtmeokhppaekhpaaGreatDoor
namespace Go.Proofs.YtmeokhppaekhpaaGreatDoor
open Go.ChangeShapes Go.WideShapes Go.ChangeAt Go.RowKit
set_option linter.unusedVariables false
theorem ls_wh (S : Nat → Bool) : ∀ n, lsF S n = whL S n
  | 0 => rfl
  | n + 1 => by rw [lsF, whL, ls_wh S n]
theorem ls_mem (S : Nat → Bool) (R : Nat) (y : Int) : y ∈ lsF S R ↔ 0 ≤ y ∧ y < R ∧ S y.toNat = true := by rw [ls_wh]; exact whL_mem S y R
theorem ls_asc (S : Nat → Bool) : ∀ n, (lsF S n).Pairwise (· < ·)
  | 0 => List.Pairwise.nil
  | n + 1 => by
    rw [lsF, List.pairwise_append]
    refine ⟨ls_asc S n, ?_, fun a ha b hb => ?_⟩
    · split <;> simp
    · have h1 := (ls_mem S n a).1 ha
      split at hb
      · have h2 : b = (n : Int) := by simpa using hb
        omega
      · cases hb
theorem ls_of {L : List Int} {S : Nat → Bool} {R : Nat} (h : L.Pairwise (· < ·)) (e : ∀ y, y ∈ L ↔ 0 ≤ y ∧ y < R ∧ S y.toNat = true) : L = lsF S R := asc_ext _ _ h (ls_asc S R) (fun y => (e y).trans (ls_mem S R y).symm)
theorem srt_ls {A B : List Int} {U : Nat → Bool} {R : Nat} (e : ∀ y, (y ∈ A ∨ y ∈ B) ↔ 0 ≤ y ∧ y < R ∧ U y.toNat = true) : srt (A ++ B) = lsF U R := ls_of (srt_asc _) (fun y => by rw [srt_mem, List.mem_append]; exact e y)
theorem ls_ext {S U : Nat → Bool} : ∀ R, (∀ i, i < R → S i = U i) → lsF S R = lsF U R
  | 0, _ => rfl
  | R + 1, h => by rw [lsF, lsF, ls_ext R (fun i hi => h i (by omega)), h R (by omega)]
theorem col_ls (M : Nat → Nat → Bool) (R y : Nat) (hy : y < R) : ∀ m, colL (fun x => lsF (M x) R) m y = lsF (fun x => M x y) m
  | 0 => rfl
  | m + 1 => by
    rw [colL, lsF, col_ls M R y hy m]
    congr 1
    show List.replicate (List.count (y : Int) (lsF (M m) R)) (m : Int) = _
    rw [ls_wh, whL_count]
    cases h : M m y
    · rw [if_neg (by simp)]
      simp
    · rw [if_pos ⟨hy, rfl⟩]
      simp
/-- Who clashes with whom by the first k instructions that write. -/
noncomputable def M1 (c : Cd) : Nat → Nat → Nat → Bool
  | 0 => fun _ _ => false
  | k + 1 => fun x y => M1 c k x y || (nmd (c.O k) 0 && (c.D k == (x : Int)) && (lbB c k y && !decide ((y : Int) ∈ goL (c.O k) (c.D k) (c.A k))))
/-- .. and by what lives ahead of the first instruction, for those in a list. -/
noncomputable def M2 (c : Cd) (n : Nat) (F : List Int) : Nat → Nat → Bool := fun x y => M1 c n x y || (decide ((x : Int) ∈ F) && laB c 0 y && !(y == x))
/-- .. told the other way round, for the first j. -/
noncomputable def M3 (c : Cd) (n : Nat) (F : List Int) (j : Nat) : Nat → Nat → Bool := fun x y => M2 c n F x y || (decide (x < j) && M2 c n F y x)
theorem M1_succ (c : Cd) (k x y : Nat) : M1 c (k + 1) x y = (M1 c k x y || (nmd (c.O k) 0 && (c.D k == (x : Int)) && (lbB c k y && !decide ((y : Int) ∈ goL (c.O k) (c.D k) (c.A k))))) := rfl
theorem M1_iff (c : Cd) (x y : Nat) : ∀ k, M1 c k x y = true ↔ ∃ i, i < k ∧ nmd (c.O i) 0 = true ∧ c.D i = (x : Int) ∧ LB c i y ∧ ¬ (y : Int) ∈ goL (c.O i) (c.D i) (c.A i)
  | 0 => by simp [M1]
  | k + 1 => by
    rw [M1_succ, Bool.or_eq_true, M1_iff c x y k]
    simp only [Bool.and_eq_true, beq_iff_eq, lbB_iff, Bool.not_eq_true', decide_eq_false_iff_not]
    constructor
    · rintro (⟨i, hi, h⟩ | ⟨⟨h1, h2⟩, h3, h4⟩)
      · exact ⟨i, by omega, h⟩
      · exact ⟨k, by omega, h1, h2, h3, h4⟩
    · rintro ⟨i, hi, h1, h2, h3, h4⟩
      by_cases e : i = k
      · subst e; exact Or.inr ⟨⟨h1, h2⟩, h3, h4⟩
      · exact Or.inl ⟨i, by omega, h1, h2, h3, h4⟩
theorem go_mem (o d a y : Int) : y ∈ goL o d a ↔ y = d ∨ (o = 2 ∧ y = a) := by
  unfold goL
  split
  · rename_i h; simp [h]
  · rename_i h; simp [h]
theorem M2_iff (c : Cd) (n : Nat) (F : List Int) (x y : Nat) : M2 c n F x y = true ↔ M1 c n x y = true ∨ ((x : Int) ∈ F ∧ LA c 0 y ∧ y ≠ x) := by
  unfold M2
  rw [Bool.or_eq_true]
  simp only [Bool.and_eq_true, laB_iff, Bool.not_eq_true', beq_eq_false_iff_ne, decide_eq_true_eq, and_assoc]
theorem M3_iff (c : Cd) (n : Nat) (F : List Int) (j x y : Nat) : M3 c n F j x y = true ↔ M2 c n F x y = true ∨ (x < j ∧ M2 c n F y x = true) := by
  unfold M3
  rw [Bool.or_eq_true]
  simp only [Bool.and_eq_true, decide_eq_true_eq]
/-- In the end it is who clashes. -/
theorem M3_cl (c : Cd) (R n x y : Nat) (hx : x < R) (hy : y < R) : M3 c n (lsF (laB c 0) R) R x y = clB c R n x y := by
  have key : M3 c n (lsF (laB c 0) R) R x y = true ↔ Cl c R n x y := by
    rw [M3_iff, M2_iff, M2_iff, M1_iff, M1_iff, ls_mem, ls_mem, Int.toNat_natCast, Int.toNat_natCast, laB_iff, laB_iff]
    unfold Cl Pk Wk Ek
    constructor
    · rintro ((⟨i, hi, h1, h2, h3, h4⟩ | ⟨⟨_, _, h1⟩, h2, h3⟩) | ⟨_, (⟨i, hi, h1, h2, h3, h4⟩ | ⟨⟨_, _, h1⟩, h2, h3⟩)⟩)
      · rw [go_mem] at h4
        exact Or.inl ⟨i, hi, y, hy, ⟨h3, fun e => h4 (Or.inl e), fun e => h4 (Or.inr ⟨e.1, e.2.symm⟩)⟩, h1, Or.inl ⟨h2.symm, rfl⟩⟩
      · exact Or.inr ⟨fun e => h3 e.symm, h1, h2⟩
      · rw [go_mem] at h4
        exact Or.inl ⟨i, hi, x, hx, ⟨h3, fun e => h4 (Or.inl e), fun e => h4 (Or.inr ⟨e.1, e.2.symm⟩)⟩, h1, Or.inr ⟨rfl, h2.symm⟩⟩
      · exact Or.inr ⟨h3, h2, h1⟩
    · rintro (⟨i, hi, r, hr, ⟨h1, h2, h3⟩, h4, (⟨h5, rfl⟩ | ⟨rfl, h5⟩)⟩ | ⟨h1, h2, h3⟩)
      · exact Or.inl (Or.inl ⟨i, hi, h4, h5.symm, h1, by rw [go_mem]; rintro (e | ⟨e1, e2⟩); exact h2 e; exact h3 ⟨e1, e2.symm⟩⟩)
      · exact Or.inr ⟨hx, Or.inl ⟨i, hi, h4, h5.symm, h1, by rw [go_mem]; rintro (e | ⟨e1, e2⟩); exact h2 e; exact h3 ⟨e1, e2.symm⟩⟩⟩
      · exact Or.inl (Or.inr ⟨⟨by omega, by omega, h2⟩, h3, fun e => h1 e.symm⟩)
  unfold clB
  by_cases e : Cl c R n x y
  · rw [key.2 e, @decide_eq_true _ (Classical.propDecidable _) e]
  · rw [@decide_eq_false _ (Classical.propDecidable _) e]
    cases q : M3 c n (lsF (laB c 0) R) R x y
    · rfl
    · exact absurd (key.1 q) e
/-- By one instruction that writes. -/
theorem M1_row (c : Cd) (R k d : Nat) (hw : nmd (c.O k) 0 = true) (hd : c.D k = (d : Int)) : srt (lsF (M1 c k d) R ++ lvO (goL (c.O k) (c.D k) (c.A k)) (lsF (lbB c k) R)) = lsF (M1 c (k + 1) d) R := srt_ls fun y => by
  rw [lvO_mem, ls_mem, ls_mem]
  constructor
  · rintro (⟨h0, h1, h2⟩ | ⟨⟨h0, h1, h2⟩, h3⟩)
    · exact ⟨h0, h1, by rw [M1_succ, h2]; rfl⟩
    · refine ⟨h0, h1, ?_⟩
      rw [M1_succ, hw, hd, h2]
      have : ((y.toNat : Nat) : Int) = y := by omega
      rw [hd] at h3
      simp [this, h3]
  · rintro ⟨h0, h1, h2⟩
    have hy : ((y.toNat : Nat) : Int) = y := by omega
    rw [M1_succ, Bool.or_eq_true] at h2
    rcases h2 with h2 | h2
    · exact Or.inl ⟨h0, h1, h2⟩
    · simp only [Bool.and_eq_true, Bool.not_eq_true', decide_eq_false_iff_not, hy] at h2
      exact Or.inr ⟨⟨h0, h1, h2.2.1⟩, h2.2.2⟩
theorem M1_skip (c : Cd) (k x y : Nat) (h : ¬ (nmd (c.O k) 0 = true ∧ c.D k = (x : Int))) : M1 c (k + 1) x y = M1 c k x y := by
  rw [M1_succ]
  have : (nmd (c.O k) 0 && (c.D k == (x : Int))) = false := by
    cases e : (nmd (c.O k) 0 && (c.D k == (x : Int)))
    · rfl
    · rw [Bool.and_eq_true, beq_iff_eq] at e
      exact absurd e h
  rw [this]
  simp
/-- What lives ahead of the first instruction. -/
theorem ah_first {c : Cd} {R : Nat} (K : LvOk c R) : ahL (c.O 0) (c.D 0) (c.A 0) (c.B 0) (c.C 0) (c.X 0) (lsF (lbB c 0) R) = lsF (laB c 0) R := by
  have n0 : 0 < c.n := K.n0
  unfold ahL
  refine srt_ls fun y => ?_
  have hb : ∀ y : Int, y ∈ opsL (c.O 0) (c.A 0) (c.B 0) (c.C 0) (c.X 0) → 0 ≤ y ∧ y < R := fun y h => K.rd 0 n0 y h
  have key : y ∈ (if nmd (c.O 0) 0 = true then lvO [c.D 0] (lsF (lbB c 0) R) else lsF (lbB c 0) R) ↔ 0 ≤ y ∧ y < R ∧ LB c 0 y.toNat ∧ ¬ c.wr 0 y.toNat := by
    unfold Cd.wr
    split
    · rename_i h
      rw [lvO_mem, ls_mem, lbB_iff]
      have hd := K.wr 0 n0 h
      constructor
      · rintro ⟨⟨h0, h1, h2⟩, h3⟩
        exact ⟨h0, h1, h2, fun e => h3 (by have := e.2; simp; omega)⟩
      · rintro ⟨h0, h1, h2, h3⟩
        refine ⟨⟨h0, h1, h2⟩, fun e => h3 ⟨h, ?_⟩⟩
        have : y = c.D 0 := by simpa using e
        omega
    · rename_i h
      rw [ls_mem, lbB_iff]
      exact ⟨fun ⟨h0, h1, h2⟩ => ⟨h0, h1, h2, fun e => h e.1⟩, fun ⟨h0, h1, h2, _⟩ => ⟨h0, h1, h2⟩⟩
  rw [key, laB_iff]
  constructor
  · rintro (⟨h0, h1, h2, h3⟩ | h)
    · exact ⟨h0, h1, LA.of_behind n0 h2 h3⟩
    · obtain ⟨h0, h1⟩ := hb y h
      exact ⟨h0, h1, .read 0 _ n0 (by rw [Int.toNat_of_nonneg h0]; exact h)⟩
  · rintro ⟨h0, h1, h⟩
    generalize hr : y.toNat = r at h
    cases h with
    | read _ _ _ h => exact Or.inr (by rw [← hr, Int.toNat_of_nonneg h0] at h; exact h)
    | pass _ t _ _ hs hw h => exact Or.inl ⟨h0, h1, ⟨t, hs, h⟩, hw⟩
theorem M2_nil (c : Cd) (n x y : Nat) : M2 c n [] x y = M1 c n x y := by unfold M2; simp
/-- For one more of those that live ahead of the first instruction. -/
theorem M2_row (c : Cd) (R n : Nat) (F : List Int) (j x : Nat) (hF : F = lsF (laB c 0) R) (hj : j < F.length) (hx : F.getD j 0 = (x : Int)) : srt (lsF (M2 c n (F.take j) x) R ++ lvO [(x : Int)] F) = lsF (M2 c n (F.take (j + 1)) x) R := srt_ls fun y => by
  rw [lvO_mem, ls_mem, hF, ls_mem, ← hF, M2_iff, M2_iff, laB_iff, take_snoc F j hj, hx]
  constructor
  · rintro (⟨h0, h1, h2 | ⟨h2, h3⟩⟩ | ⟨⟨h0, h1, h2⟩, h3⟩)
    · exact ⟨h0, h1, Or.inl h2⟩
    · exact ⟨h0, h1, Or.inr ⟨by simp [h2], h3⟩⟩
    · exact ⟨h0, h1, Or.inr ⟨by simp, h2, fun e => h3 (by simp; omega)⟩⟩
  · rintro ⟨h0, h1, h2 | ⟨h2, h3, h4⟩⟩
    · exact Or.inl ⟨h0, h1, Or.inl h2⟩
    · exact Or.inr ⟨⟨h0, h1, h3⟩, fun e => h4 (by have h5 : y = (x : Int) := (by simpa using e); omega)⟩
theorem M2_skip (c : Cd) (n : Nat) (F : List Int) (j x z y : Nat) (hj : j < F.length) (hx : F.getD j 0 = (x : Int)) (h : z ≠ x) : M2 c n (F.take (j + 1)) z y = M2 c n (F.take j) z y := by
  unfold M2
  rw [take_snoc F j hj, hx]
  congr 3
  simp
  omega
theorem M3_zero (c : Cd) (n : Nat) (F : List Int) (x y : Nat) : M3 c n F 0 x y = M2 c n F x y := by unfold M3; simp
theorem M3_row (c : Cd) (R n : Nat) (F : List Int) (x : Nat) : srt (lsF (M3 c n F x x) R ++ lsF (fun y => M2 c n F y x) R) = lsF (M3 c n F (x + 1) x) R := srt_ls fun y => by
  rw [ls_mem, ls_mem, M3_iff, M3_iff]
  constructor
  · rintro (⟨h0, h1, h2 | ⟨h2, h3⟩⟩ | ⟨h0, h1, h2⟩)
    · exact ⟨h0, h1, Or.inl h2⟩
    · omega
    · exact ⟨h0, h1, Or.inr ⟨by omega, h2⟩⟩
  · rintro ⟨h0, h1, h2 | ⟨h2, h3⟩⟩
    · exact Or.inl ⟨h0, h1, Or.inl h2⟩
    · exact Or.inr ⟨h0, h1, h3⟩
theorem M3_skip (c : Cd) (n : Nat) (F : List Int) (x z y : Nat) (h : z ≠ x) : M3 c n F (x + 1) z y = M3 c n F x z y := by
  unfold M3
  congr 2
  simp
  omega
def upV (U : Nat → Value) (x : Nat) (u : Value) : Nat → Value := fun y => if y = x then u else U y
/-- A row of R lists, each in a block of its own, their slices in block gm. -/
structure Mt (gm R : Nat) (U : Nat → Value) (M : Nat → Nat → Bool) (wx : World) : Prop where
  c : ∀ x, x < R → wx.cell? ⟨gm, x, none⟩ = some (U x)
  r : ∀ x, x < R → IOwn (gm + 1) wx (U x) (lsF (M x) R)
  ap : ∀ x y, x < R → y < R → x ≠ y → ∀ q, (U x).ownBlock = some q → (U y).ownBlock ≠ some q
  f : ∀ i, wx.frozen? ⟨gm, i, none⟩ = false
  hg : gm < wx.heap.size
theorem Mt.next {gm R : Nat} {U : Nat → Value} {M : Nat → Nat → Bool} {wx wy : World} (h : Mt gm R U M wx) (b : Below wx.heap.size wx wy) : Mt gm R U M wy :=
  ⟨fun x hx => cell_nx (h.c x hx) b, fun x hx => (h.r x hx).next b, h.ap, fun i => (b.frozen (p := ⟨gm, i, none⟩) h.hg).trans (h.f i), by have := h.hg; have := b.size; omega⟩
theorem Mt.ext {gm R : Nat} {U : Nat → Value} {M P : Nat → Nat → Bool} {wx : World} (h : Mt gm R U M wx) (e : ∀ x y, x < R → y < R → M x y = P x y) : Mt gm R U P wx :=
  ⟨h.c, fun x hx => by rw [← ls_ext R (fun y hy => e x y hx hy)]; exact h.r x hx, h.ap, h.f, h.hg⟩
theorem Mt.begin {gm R : Nat} {wx : World} (O : Own wx gm R (fun _ => .slice none 0 0)) : Mt gm R (fun _ => .slice none 0 0) (fun _ _ => false) wx :=
  ⟨O.cell, fun x hx => Or.inl ⟨by
    have : ∀ n, lsF (fun _ => false) n = [] := fun n => by
      induction n with
      | zero => rfl
      | succ n ih => rw [lsF, ih]; rfl
    exact this R, rfl⟩, fun x y _ _ _ q hq => by simp [Value.ownBlock] at hq, O.free, O.hi⟩
theorem Mt.lt {gm R : Nat} {U : Nat → Value} {M : Nat → Nat → Bool} {wx : World} (h : Mt gm R U M wx) (x : Nat) (hx : x < R) : ∀ q, (U x).ownBlock = some q → q < wx.heap.size := (h.r x hx).row.lt
/-- One of the lists anew. -/
theorem Mt.step {gm R x : Nat} {U : Nat → Value} {M P : Nat → Nat → Bool} {wx wy : World} {u : Value} (h : Mt gm R U M wx) (b : Below wx.heap.size wx wy) (hx : x < R) (i : IOwn wx.heap.size wy u (lsF (P x) R)) (e : ∀ z y, z < R → y < R → z ≠ x → P z y = M z y) : Mt gm R (upV U x u) P (wy.setCell ⟨gm, x, none⟩ u) := by
  have h2 := h.next b
  have O : Only gm wy (wy.setCell ⟨gm, x, none⟩ u) := (Only.refl _ _).setCell _ _
  refine ⟨fun z hz => ?_, fun z hz => ?_, fun z y hz hy hne q hq => ?_, fun j => by simp [h2.f j], by simpa using h2.hg⟩
  · unfold upV
    by_cases q : z = x
    · subst q
      rw [if_pos rfl]
      exact World.cell?_setCell_same' _ _ _ (by rw [h2.c z hz]; rfl)
    · rw [if_neg q, World.cell?_setCell_other (h := addr_ne (fun q' => q q'.symm))]
      exact h2.c z hz
  · unfold upV
    by_cases q : z = x
    · subst q
      rw [if_pos rfl]
      exact (i.low (by have := h.hg; omega)).only O (by omega)
    · rw [if_neg q, ls_ext R (fun y hy => e z y hz hy q)]
      exact (h2.r z hz).only O (by omega)
  · unfold upV at hq ⊢
    by_cases q1 : z = x
    · rw [if_pos q1] at hq
      rw [if_neg (by omega)]
      have h3 := i.lt q hq
      intro q2
      have := h.lt y hy q q2
      omega
    · rw [if_neg q1] at hq
      by_cases q2 : y = x
      · rw [if_pos q2]
        intro q3
        have h3 := i.lt q q3
        have := h.lt z hz q hq
        omega
      · rw [if_neg q2]
        exact h.ap z y hz hy hne q hq
theorem Mt.arows {gm R : Nat} {U : Nat → Value} {M : Nat → Nat → Bool} {wx : World} (h : Mt gm R U M wx) (cp : Nat) : ARows wx (.slice (some ⟨gm, 0, none⟩) R cp) R (fun x => lsF (M x) R) := ⟨_, _, rfl, fun x hx => ⟨gm, 0, U x, rfl, by rw [Nat.zero_add]; exact h.c x hx, (h.r x hx).arow⟩⟩
theorem Mt.ans {B gm R cp : Nat} {U : Nat → Value} {M : Nat → Nat → Bool} {wx : World} (h : Mt gm R U M wx) (hB : B ≤ gm) : Ans B wx (.slice (some ⟨gm, 0, none⟩) R cp) R (fun x => lsF (M x) R) := by
  have key : ∀ x, x < R → 0 < (lsF (M x) R).length → ∃ q c, U x = .slice (some ⟨q, 0, none⟩) (lsF (M x) R).length c ∧ (U x).ownBlock = some q ∧ gm + 1 ≤ q ∧ Own wx q (lsF (M x) R).length (fun i => .int .i64 ((lsF (M x) R).getD i 0)) := fun x hx hl => by
    rcases h.r x hx with ⟨h1, _⟩ | ⟨q, c, h1, _, h3, h4⟩
    · rw [h1] at hl; simp at hl
    · exact ⟨q, c, h1, by rw [h1]; rfl, h3, h4⟩
  refine ⟨_, cp, fun x => ((U x).ownBlock).getD 0, fun _ => 0, rfl, ⟨fun x hx => ⟨gm, rfl, hB, ?_, fun y i hy hi => ?_⟩, fun x i hx hi => ?_, fun x i hx hi => ?_, fun x y i j hx hy hi hj e _ => ?_, fun x i hx hi => ?_⟩⟩
  · obtain ⟨a2, c2, hu⟩ := (h.r x hx).row.is
    refine ⟨a2, c2, by rw [h.c x hx, hu], fun hl => ?_⟩
    obtain ⟨q, c, h1, h2, _, _⟩ := key x hx hl
    rw [h2]
    rw [h1] at hu
    injection hu with hu
    rw [← hu]
    rfl
  · obtain ⟨q, c, h1, h2, h3, _⟩ := key y hy (Nat.lt_of_le_of_lt (Nat.zero_le _) hi)
    show ((U y).ownBlock).getD 0 ≠ gm
    rw [h2]
    show q ≠ gm
    omega
  · obtain ⟨q, c, h1, h2, h3, h4⟩ := key x hx (Nat.lt_of_le_of_lt (Nat.zero_le _) hi)
    show wx.cell? ⟨((U x).ownBlock).getD 0, 0 + i, none⟩ = _
    rw [h2, Nat.zero_add]
    exact h4.cell i hi
  · obtain ⟨q, c, h1, h2, h3, h4⟩ := key x hx (Nat.lt_of_le_of_lt (Nat.zero_le _) hi)
    show wx.frozen? ⟨((U x).ownBlock).getD 0, 0 + i, none⟩ = false
    rw [h2, Nat.zero_add]
    exact h4.free i
  · obtain ⟨q, c, h1, h2, h3, h4⟩ := key x hx (Nat.lt_of_le_of_lt (Nat.zero_le _) hi)
    obtain ⟨q', c', h1', h2', h3', h4'⟩ := key y hy (Nat.lt_of_le_of_lt (Nat.zero_le _) hj)
    have e' : ((U x).ownBlock).getD 0 = ((U y).ownBlock).getD 0 := e
    rw [h2, h2'] at e'
    have e2 : q = q' := e'
    subst e2
    by_cases z : x = y
    · exact z
    · exact absurd h2' (h.ap x y hx hy z q h2)
  · obtain ⟨q, c, h1, h2, h3, h4⟩ := key x hx (Nat.lt_of_le_of_lt (Nat.zero_le _) hi)
    show B ≤ ((U x).ownBlock).getD 0
    rw [h2]
    show B ≤ q
    omega
theorem Tc.only {w w' : World} {gc g K q : Nat} {S : Nat → Nat} {L : Nat → List Int} (h : Tc w gc g K S L) (b : Only q w w') (h1 : gc ≠ q) (h2 : g ≠ q) : Tc w' gc g K S L := by
  have z := b.size
  have zg := h.hg
  have zc := h.hc
  refine ⟨fun x hx => ?_, fun x hx i hi => (World.cell?_of_block (w := w) (a := ⟨g, _, none⟩) (b.block g zg h2)).trans (h.cel x hx i hi), h.len, fun i hi => ?_, fun i => (World.frozen?_of_block (w := w) (a := ⟨g, i, none⟩) (b.block g zg h2)).trans (h.fg i), fun i => (World.frozen?_of_block (w := w) (a := ⟨gc, i, none⟩) (b.block gc zc h1)).trans (h.fc i), h.ne, by omega, by omega⟩
  · obtain ⟨o, c1, c2⟩ := h.col x hx
    exact ⟨o, (World.cell?_of_block (w := w) (a := ⟨gc, x, none⟩) (b.block gc zc h1)).trans c1, c2⟩
  · rw [World.cell?_of_block (w := w) (a := ⟨g, i, none⟩) (b.block g zg h2)]
    exact h.room i hi
end Go.Proofs.YtmeokhppaekhpaaGreatDoor
