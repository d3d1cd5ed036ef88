/- The program's ReadsOf: the operands sorted and made compact are the model's. -/
import Derived.Test.YtcgapochcahknaaDoorRdo
import Derived.Test.YtcgapochcahknaaDoorShelf
import Derived.Lib.RowBridge
namespace Go.Proofs.YtcgapochcahknaaDoor
open Go.ChangeShapes Go.WideShapes Go.ChangeAt Go.RowKit
set_option linter.unusedVariables false
theorem asc_ext : ∀ (l l' : List Int), l.Pairwise (· < ·) → l'.Pairwise (· < ·) → (∀ y, y ∈ l ↔ y ∈ l') → l = l'
  | [], [], _, _, _ => rfl
  | [], y :: r, _, _, h => absurd ((h y).2 (by simp)) (by simp)
  | x :: r, [], _, _, h => absurd ((h x).1 (by simp)) (by simp)
  | x :: r, y :: s, hx, hy, h => by
    rw [List.pairwise_cons] at hx hy
    have h1 := (h x).1 (by simp)
    have h2 := (h y).2 (by simp)
    have e : x = y := by
      rcases List.mem_cons.1 h1 with e | e
      · exact e
      · rcases List.mem_cons.1 h2 with e2 | e2
        · exact e2.symm
        · have := hy.1 x e; have := hx.1 y e2; omega
    subst e
    rw [asc_ext r s hx.2 hy.2 (fun z => ⟨fun hz => ?_, fun hz => ?_⟩)]
    · rcases List.mem_cons.1 ((h z).1 (List.mem_cons_of_mem _ hz)) with e | e
      · subst e; have := hx.1 z hz; omega
      · exact e
    · rcases List.mem_cons.1 ((h z).2 (List.mem_cons_of_mem _ hz)) with e | e
      · subst e; have := hy.1 z hz; omega
      · exact e
theorem insU_asc (x : Int) : ∀ l : List Int, l.Pairwise (· < ·) → (insU x l).Pairwise (· < ·)
  | [], _ => by simp [insU]
  | y :: r, h => by
    have h' := List.pairwise_cons.1 h
    unfold insU
    split
    · rename_i hyx
      rw [List.pairwise_cons]
      refine ⟨fun z hz => ?_, insU_asc x r h'.2⟩
      rcases (insU_mem x z r).1 hz with rfl | hz
      · exact hyx
      · exact h'.1 z hz
    · split
      · exact h
      · rw [List.pairwise_cons]
        refine ⟨fun z hz => ?_, h⟩
        rcases List.mem_cons.1 hz with rfl | hz
        · omega
        · have := h'.1 z hz; omega
theorem srt_ascA : ∀ (l acc : List Int), acc.Pairwise (· < ·) → (l.foldl (fun l x => insU x l) acc).Pairwise (· < ·)
  | [], acc, h => h
  | x :: l, acc, h => srt_ascA l (insU x acc) (insU_asc x acc h)
theorem srt_asc (l : List Int) : (srt l).Pairwise (· < ·) := srt_ascA l [] List.Pairwise.nil
theorem compact_asc (d : Array Int) (hd : ∀ i j, i ≤ j → j < d.size → d[i]! ≤ d[j]!) : ∀ m, m ≤ d.size → (Lib.compactUpTo d m).Pairwise (· < ·) ∧ (∀ y, y ∈ Lib.compactUpTo d m ↔ ∃ j, j < m ∧ y = d[j]!)
  | 0, _ => by simp [Lib.compactUpTo]
  | m + 1, hm => by
    obtain ⟨h1, h2⟩ := compact_asc d hd m (by omega)
    rw [Lib.compactUpTo_succ]
    by_cases hk : Lib.keeps d m = true
    · rw [if_pos hk]
      have hk' : m = 0 ∨ d[m]! ≠ d[m - 1]! := by simpa [Lib.keeps] using hk
      refine ⟨?_, fun y => ?_⟩
      · rw [List.pairwise_append]
        refine ⟨h1, by simp, fun a ha b hb => ?_⟩
        obtain ⟨j, hj, rfl⟩ := (h2 a).1 ha
        obtain rfl : b = d[m]! := by simpa using hb
        have e1 := hd j (m - 1) (by omega) (by omega)
        have e2 := hd (m - 1) m (by omega) (by omega)
        have := hk'.resolve_left (by omega)
        omega
      · rw [List.mem_append, h2]
        constructor
        · rintro (⟨j, hj, rfl⟩ | h)
          · exact ⟨j, by omega, rfl⟩
          · exact ⟨m, by omega, by simpa using h⟩
        · rintro ⟨j, hj, rfl⟩
          by_cases e : j = m
          · subst e; right; simp
          · exact Or.inl ⟨j, by omega, rfl⟩
    · rw [if_neg hk, List.append_nil]
      refine ⟨h1, fun y => ?_⟩
      have hk' : ¬ (m = 0 ∨ d[m]! ≠ d[m - 1]!) := by simpa [Lib.keeps] using hk
      rw [h2]
      constructor
      · rintro ⟨j, hj, rfl⟩; exact ⟨j, by omega, rfl⟩
      · rintro ⟨j, hj, rfl⟩
        by_cases e : j = m
        · subst e
          refine ⟨j - 1, by omega, ?_⟩
          have : ¬ d[j]! ≠ d[j - 1]! := fun h => hk' (Or.inr h)
          exact Decidable.not_not.1 this
        · exact ⟨j, by omega, rfl⟩
/-- What is sorted and then made compact. -/
theorem srt_is (L : List Int) : Lib.compact (L.mergeSort fun x y => decide (x ≤ y)) = srt L := by
  have hp := List.mergeSort_perm L (fun x y => decide (x ≤ y))
  have hs : (L.mergeSort fun x y => decide (x ≤ y)).Pairwise (fun a b => (decide (a ≤ b)) = true) := List.pairwise_mergeSort (fun a b c h1 h2 => by simp at *; omega) (fun a b => by simp; omega) L
  generalize L.mergeSort (fun x y => decide (x ≤ y)) = S at hp hs
  have hd : ∀ i j, i ≤ j → j < S.toArray.size → S.toArray[i]! ≤ S.toArray[j]! := by
    intro i j hij hj
    have hj' : j < S.length := by simpa using hj
    by_cases e : i = j
    · subst e; exact Int.le_refl _
    · have := List.pairwise_iff_getElem.1 hs i j (by omega) hj' (by omega)
      simpa [getElem!_pos, hj', (show i < S.length by omega)] using this
  obtain ⟨h1, h2⟩ := compact_asc S.toArray hd S.length (by simp)
  refine asc_ext _ _ h1 (srt_asc L) (fun y => ?_)
  unfold Lib.compact
  rw [h2, srt_mem, ← hp.mem_iff]
  constructor
  · rintro ⟨j, hj, rfl⟩
    simp [getElem!_pos, hj]
  · intro hy
    obtain ⟨j, hj, rfl⟩ := List.getElem_of_mem hy
    exact ⟨j, hj, by simp [getElem!_pos, hj]⟩
theorem only_setCells (g : Nat) : ∀ (vs : List Value) (j : Nat) (a w : World), Only g a w → Only g a (w.setCells g j vs)
  | [], _, _, _, h => h
  | v :: r, j, a, w, h => only_setCells g r (j + 1) a _ (h.setCell j v)
theorem own_setCellsI {w : World} {g n : Nat} {f : Nat → Value} (O : Own w g n f) (ys : List Int) (hy : ys.length = n) : Own (w.setCells g 0 (ys.map (Value.int .i64))) g n (fun i => .int .i64 (ys.getD i 0)) := by
  refine ⟨fun i hi => ?_, fun i => ?_, Nat.lt_of_lt_of_le O.hi (only_setCells g _ 0 w w (Only.refl _ _)).size⟩
  · have h := World.cell?_setCells_in g (ys.map (Value.int .i64)) 0 w (fun j hj => by rw [Nat.zero_add, O.cell j (by simpa [hy] using hj)]; rfl) i (by simpa [hy] using hi)
    rw [Nat.zero_add] at h
    rw [h]
    have hi' : i < ys.length := by omega
    simp [List.getD, hi']
  · rw [World.frozen?_setCells]; exact O.free i
theorem below_grow (w : World) (os : Array Obj) : Below w.heap.size w (Sort.grow w os) := by
  refine ⟨rfl, rfl, rfl, by simp [Sort.grow], fun k hk => ?_⟩
  show (w.heap ++ os)[k]? = w.heap[k]?
  exact Array.getElem?_append_left hk
def srtd (L : List Int) : List Int := L.mergeSort fun x y => decide (x ≤ y)
theorem srtd_len (L : List Int) : (srtd L).length = L.length := List.length_mergeSort L
theorem sort20 (B g c : Nat) (L : List Int) (w : World) (O : Own w g L.length (fun i => .int .i64 (L.getD i 0))) (hB : B ≤ g) (hl : L.length ≤ 3) : Calls Tryd.prog 117 #[.slice (some ⟨g, 0, none⟩) L.length c] w fun e w' => e = .returned (.tuple #[]) ∧ Own w' g L.length (fun i => .int .i64 ((srtd L).getD i 0)) ∧ Below B w w' := by
  have hH : Sort.Holds (Value.int .i64) w g 0 L.toArray := by
    have := Lib.holds_of_ints (w := w) (b := g) (off := 0) (n := L.length) (zs := L) (Nat.le_refl _) (fun j hj => by rw [Nat.zero_add]; exact O.cell j hj) (fun j hj => by rw [Nat.zero_add]; exact O.free j)
    rwa [List.take_of_length_le (Nat.le_refl _)] at this
  refine (Tryd.slices_Sort_int g 0 c L w hH O.hi (by omega)).mono ?_
  rintro e w' ⟨rfl, n, os, rfl⟩
  have E := Lib.putRow_eq_setCells (Value.int .i64) w g 0 L.toArray (srtd L) n hH (by rw [srtd_len]; simp)
  have E' : Sort.putRow (Value.int .i64) (Sort.ahead w n) g 0 (L.mergeSort fun x y => decide (x ≤ y)).toArray = (w.drewN n).setCells g 0 ((srtd L).map (Value.int .i64)) := E
  rw [E']
  have O1 := own_setCellsI (O.drewN n) (srtd L) (srtd_len L)
  have B0 := below_grow ((w.drewN n).setCells g 0 ((srtd L).map (Value.int .i64))) os
  refine ⟨rfl, O1.next B0, ?_⟩
  have U : Only g w ((w.drewN n).setCells g 0 ((srtd L).map (Value.int .i64))) := only_setCells g _ 0 w _ ((Only.refl g w).drewN n)
  have hs : B ≤ w.heap.size := Nat.le_trans hB (Nat.le_of_lt O.hi)
  exact (U.below hB hs).trans (B0.mono (Nat.le_trans hs U.size))
theorem compact21 (B g c : Nat) (L : List Int) (w : World) (O : Own w g L.length (fun i => .int .i64 ((srtd L).getD i 0))) (hB : B ≤ g) (hl : L.length ≤ 3) (hc : L.length ≤ c) : Calls Tryd.prog 118 #[.slice (some ⟨g, 0, none⟩) L.length c] w fun e w' => ∃ v, e = .returned v ∧ IOwn B w' v (srt L) ∧ Below B w w' := by
  have hH := Tryd.slices_Compact_int_cells g 0 L.length c (srtd L) w (by rw [srtd_len]; exact Nat.le_refl _) (by omega) hc (fun j hj => by rw [Nat.zero_add]; exact O.cell j (by rw [← srtd_len]; exact hj)) (fun j hj => by rw [Nat.zero_add]; exact O.free j)
  rw [List.take_of_length_le (by rw [srtd_len]; exact Nat.le_refl _)] at hH
  rw [show Lib.compact (srtd L) = srt L from srt_is L] at hH
  refine hH.mono ?_
  rintro e w' ⟨rfl, q, rfl⟩
  have hle := srt_len L
  obtain ⟨ys, hys⟩ : ∃ ys, srt L ++ List.replicate (L.length - (srt L).length) 0 = ys := ⟨_, rfl⟩
  have hyl : ys.length = L.length := by rw [← hys]; simp; omega
  rw [hys]
  have O1 := own_setCellsI (O.drewN q) ys hyl
  refine ⟨_, rfl, Or.inr ⟨g, c, rfl, by omega, hB, O1.mono hle (fun i hi => ?_)⟩, ?_⟩
  · show Value.int .i64 ((srt L).getD i 0) = Value.int .i64 (ys.getD i 0)
    rw [← hys]
    simp [List.getD, List.getElem?_append_left hi]
  · exact (only_setCells g _ 0 w _ ((Only.refl g w).drewN q)).below hB (Nat.le_trans hB (Nat.le_of_lt O.hi))
theorem sort20_0 (a : Option Addr) (c : Nat) (w : World) : Calls Tryd.prog 117 #[.slice a 0 c] w fun e w' => e = .returned (.tuple #[]) ∧ w' = w := Tryd.slices_Sort_int_none a c w
theorem compact21_0 (a : Option Addr) (c : Nat) (w : World) : Calls Tryd.prog 118 #[.slice a 0 c] w fun e w' => e = .returned (.slice a 0 c) ∧ w' = w := Tryd.slices_Compact_int_empty a c w
set_option maxRecDepth 100000 in
set_option maxHeartbeats 2000000 in
theorem reads7 (o d a b c x : Int) (w : World) (G : Forms w) (x0 : 0 ≤ x) (x1 : x < 4294967296) : Calls Tryd.prog 109 #[.agg #[.int .i64 o, .int .i64 d, .int .i64 a, .int .i64 b, .int .i64 c, .int .u32 x]] w fun e w' => ∃ v, e = .returned v ∧ IOwn w.heap.size w' v (rdL o d a b c x) ∧ Below w.heap.size w w' := by
  have BA : Hid (Below w.heap.size w (w.alloc (.cells #[.int .i64 o, .int .i64 d, .int .i64 a, .int .i64 b, .int .i64 c, .int .u32 x] 35))) := (Below.refl _ _).alloc (Nat.le_refl _) _
  have GA : Hid (Forms (w.alloc (.cells #[.int .i64 o, .int .i64 d, .int .i64 a, .int .i64 b, .int .i64 c, .int .u32 x] 35))) := G.below BA.out
  have h18 := fun v g => good33 o d a b c x 600 v g x0 x1 (by decide) (by decide)
  have HG : Hid (∀ v, Below w.heap.size w v → Forms v) := fun v k => G.below k
  have d0 : (w.alloc (.cells #[.int .i64 o, .int .i64 d, .int .i64 a, .int .i64 b, .int .i64 c, .int .u32 x] 35)).cell? ⟨w.heap.size, 0, none⟩ = some (.int .i64 o) := by simp
  have d1 : (w.alloc (.cells #[.int .i64 o, .int .i64 d, .int .i64 a, .int .i64 b, .int .i64 c, .int .u32 x] 35)).cell? ⟨w.heap.size, 1, none⟩ = some (.int .i64 d) := by simp
  have d2 : (w.alloc (.cells #[.int .i64 o, .int .i64 d, .int .i64 a, .int .i64 b, .int .i64 c, .int .u32 x] 35)).cell? ⟨w.heap.size, 2, none⟩ = some (.int .i64 a) := by simp
  have d3 : (w.alloc (.cells #[.int .i64 o, .int .i64 d, .int .i64 a, .int .i64 b, .int .i64 c, .int .u32 x] 35)).cell? ⟨w.heap.size, 3, none⟩ = some (.int .i64 b) := by simp
  have d4 : (w.alloc (.cells #[.int .i64 o, .int .i64 d, .int .i64 a, .int .i64 b, .int .i64 c, .int .u32 x] 35)).cell? ⟨w.heap.size, 4, none⟩ = some (.int .i64 c) := by simp
  have d5 : (w.alloc (.cells #[.int .i64 o, .int .i64 d, .int .i64 a, .int .i64 b, .int .i64 c, .int .u32 x] 35)).cell? ⟨w.heap.size, 5, none⟩ = some (.int .u32 x) := by simp
  cases hg : goodI o d a b c x 600
  · have HV : Hid (rdL o d a b c x = []) := by show _ = _; unfold rdL; rw [hg]; rfl
    rw [hg] at h18
    clear hg G
    generalize rdL o d a b c x = RL at HV ⊢
    go_enter Tryd.func109, Tryd.ntmps109
    go_wp2_with (go_at_call 40; refine (h18 _ GA.out).mono ?_; rintro e w1 ⟨rfl, B1⟩)
    go_ret
    exact ⟨_, rfl, Or.inl ⟨HV.out, rfl⟩, BA.out.trans (B1.mono BA.out.size)⟩
  · have HV : Hid (rdL o d a b c x = srt (opsL o a b c x)) := by show _ = _; unfold rdL; rw [hg]; rfl
    have H19 : Hid (∀ v, Forms v → Calls Tryd.prog 95 #[.agg #[.int .i64 o, .int .i64 d, .int .i64 a, .int .i64 b, .int .i64 c, .int .u32 x]] v fun e w' => ∃ u, e = .returned u ∧ IOwn v.heap.size w' u (opsL o a b c x) ∧ Below v.heap.size v w') := fun v g => operands38 o d a b c x v g x0 x1 (bds_of hg (by decide)).1 (good_call1 hg)
    have HL3 : Hid ((opsL o a b c x).length ≤ 3) := opsL_len o a b c x
    rw [hg] at h18
    clear hg G x0 x1
    generalize rdL o d a b c x = RL at HV ⊢
    generalize opsL o a b c x = L at HV H19 HL3
    go_enter Tryd.func109, Tryd.ntmps109
    go_wp2_with (first | (go_at_call 40; refine (h18 _ GA.out).mono ?_; rintro e w1 ⟨rfl, B1⟩; (have B01 := BA.out.trans (B1.mono BA.out.size)); (have e0 := cell_next d0 B1); (have e1 := cell_next d1 B1); (have e2 := cell_next d2 B1); (have e3 := cell_next d3 B1); (have e4 := cell_next d4 B1); (have e5 := cell_next d5 B1); skip) | (go_at_call 95; refine (H19.out _ (HG.out _ B01)).mono ?_; rintro e w2 ⟨u, rfl, IU, B2⟩; rcases IU with ⟨hL, rfl⟩ | ⟨g, cp, rfl, hcp, hgB, OW⟩))
    · have B02 := B01.trans (B2.mono B01.size)
      go_wp2_with (first | (go_at_call 117; refine (sort20_0 none 0 _).mono ?_; rintro e w3 ⟨rfl, hw⟩; subst w3) | (go_at_call 118; refine (compact21_0 none 0 _).mono ?_; rintro e w3 ⟨rfl, hw⟩; subst w3))
      go_ret
      exact ⟨_, rfl, Or.inl ⟨by rw [HV.out, hL]; rfl, rfl⟩, B02⟩
    · have B02 : Hid (Below w.heap.size w w2) := B01.trans (B2.mono B01.size)
      have hB : w.heap.size ≤ g := Nat.le_trans B01.size hgB
      have H20 := sort20 w.heap.size g cp L w2 OW hB HL3.out
      have H21 : Hid (∀ v, Own v g L.length (fun i => .int .i64 ((srtd L).getD i 0)) → Calls Tryd.prog 118 #[.slice (some ⟨g, 0, none⟩) L.length cp] v fun e w' => ∃ u, e = .returned u ∧ IOwn w.heap.size w' u (srt L) ∧ Below w.heap.size v w') := fun v O => compact21 w.heap.size g cp L v O hB HL3.out hcp
      clear B2 B01 B1 hcp hgB hB OW h18 e0 e1 e2 e3 e4 e5 d0 d1 d2 d3 d4 d5
      go_wp2_with (first | (go_at_call 117; refine H20.mono ?_; rintro e w3 ⟨rfl, O3, B3⟩) | (go_at_call 118; refine (H21.out _ O3).mono ?_; rintro e w4 ⟨u, rfl, IU, B4⟩))
      go_ret
      exact ⟨_, rfl, by rw [HV.out]; exact IU, (B02.out.trans B3).trans B4⟩
end Go.Proofs.YtcgapochcahknaaDoor
