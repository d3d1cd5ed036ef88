/- Lists joined to one, rising: the program's union. -/
import Derived.Test.YtfhpjcojccfcoaaRa
import Derived.Test.YtfhpjcojccfcoaaShelf
import Derived.Lib.AppendZeros
import Derived.Lib.RowBridge
namespace Go.Proofs.Ytfhpjcojccfcoaa
open Go.ChangeShapes Go.WideShapes Go.ChangeAt Go.RowKit
set_option linter.unusedVariables false
theorem Ri.own {B : Nat} {w : World} {v : Value} {L : List Int} (h : Ri B w v L) : IOwn B w v L := by
  rcases h.1.2 with ⟨hv, h0⟩ | ⟨g, cap, cur, hv, hb, hg, h1, _⟩
  · exact Or.inl ⟨List.eq_nil_of_length_eq_zero h0, hv⟩
  · refine Or.inr ⟨g, cap, hv, h1, hb, ?_⟩
    have h2 := h.1
    rw [hv] at h2
    exact own_owned h2 _ fun i hi => by simp [il, List.getD, hi]
theorem asc_ext : ∀ (l l' : List Int), l.Pairwise (· < ·) → l'.Pairwise (· < ·) → (∀ y, y ∈ l ↔ y ∈ l') → l = l'
  | [], [], _, _, _ => rfl
  | [], y :: r, _, _, h => absurd ((h y).2 (by simp)) (by simp)
  | x :: r, [], _, _, h => absurd ((h x).1 (by simp)) (by simp)
  | x :: r, y :: s, hx, hy, h => by
    rw [List.pairwise_cons] at hx hy
    have h1 := (h x).1 (by simp)
    have h2 := (h y).2 (by simp)
    have e : x = y := by
      rcases List.mem_cons.1 h1 with e | e
      · exact e
      · rcases List.mem_cons.1 h2 with e2 | e2
        · exact e2.symm
        · have := hy.1 x e; have := hx.1 y e2; omega
    subst e
    rw [asc_ext r s hx.2 hy.2 (fun z => ⟨fun hz => ?_, fun hz => ?_⟩)]
    · rcases List.mem_cons.1 ((h z).1 (List.mem_cons_of_mem _ hz)) with e | e
      · subst e; have := hx.1 z hz; omega
      · exact e
    · rcases List.mem_cons.1 ((h z).2 (List.mem_cons_of_mem _ hz)) with e | e
      · subst e; have := hy.1 z hz; omega
      · exact e
theorem insU_asc (x : Int) : ∀ l : List Int, l.Pairwise (· < ·) → (insU x l).Pairwise (· < ·)
  | [], _ => by simp [insU]
  | y :: r, h => by
    have h' := List.pairwise_cons.1 h
    unfold insU
    split
    · rename_i hyx
      rw [List.pairwise_cons]
      refine ⟨fun z hz => ?_, insU_asc x r h'.2⟩
      rcases (insU_mem x z r).1 hz with rfl | hz
      · exact hyx
      · exact h'.1 z hz
    · split
      · exact h
      · rw [List.pairwise_cons]
        refine ⟨fun z hz => ?_, h⟩
        rcases List.mem_cons.1 hz with rfl | hz
        · omega
        · have := h'.1 z hz; omega
theorem srt_ascA : ∀ (l acc : List Int), acc.Pairwise (· < ·) → (l.foldl (fun l x => insU x l) acc).Pairwise (· < ·)
  | [], acc, h => h
  | x :: l, acc, h => srt_ascA l (insU x acc) (insU_asc x acc h)
theorem srt_asc (l : List Int) : (srt l).Pairwise (· < ·) := srt_ascA l [] List.Pairwise.nil
theorem compact_asc (d : Array Int) (hd : ∀ i j, i ≤ j → j < d.size → d[i]! ≤ d[j]!) : ∀ m, m ≤ d.size → (Lib.compactUpTo d m).Pairwise (· < ·) ∧ (∀ y, y ∈ Lib.compactUpTo d m ↔ ∃ j, j < m ∧ y = d[j]!)
  | 0, _ => by simp [Lib.compactUpTo]
  | m + 1, hm => by
    obtain ⟨h1, h2⟩ := compact_asc d hd m (by omega)
    rw [Lib.compactUpTo_succ]
    by_cases hk : Lib.keeps d m = true
    · rw [if_pos hk]
      have hk' : m = 0 ∨ d[m]! ≠ d[m - 1]! := by simpa [Lib.keeps] using hk
      refine ⟨?_, fun y => ?_⟩
      · rw [List.pairwise_append]
        refine ⟨h1, by simp, fun a ha b hb => ?_⟩
        obtain ⟨j, hj, rfl⟩ := (h2 a).1 ha
        obtain rfl : b = d[m]! := by simpa using hb
        have e1 := hd j (m - 1) (by omega) (by omega)
        have e2 := hd (m - 1) m (by omega) (by omega)
        have := hk'.resolve_left (by omega)
        omega
      · rw [List.mem_append, h2]
        constructor
        · rintro (⟨j, hj, rfl⟩ | h)
          · exact ⟨j, by omega, rfl⟩
          · exact ⟨m, by omega, by simpa using h⟩
        · rintro ⟨j, hj, rfl⟩
          by_cases e : j = m
          · subst e; right; simp
          · exact Or.inl ⟨j, by omega, rfl⟩
    · rw [if_neg hk, List.append_nil]
      refine ⟨h1, fun y => ?_⟩
      have hk' : ¬ (m = 0 ∨ d[m]! ≠ d[m - 1]!) := by simpa [Lib.keeps] using hk
      rw [h2]
      constructor
      · rintro ⟨j, hj, rfl⟩; exact ⟨j, by omega, rfl⟩
      · rintro ⟨j, hj, rfl⟩
        by_cases e : j = m
        · subst e
          refine ⟨j - 1, by omega, ?_⟩
          have : ¬ d[j]! ≠ d[j - 1]! := fun h => hk' (Or.inr h)
          exact Decidable.not_not.1 this
        · exact ⟨j, by omega, rfl⟩
/-- What is sorted and then made compact. -/
theorem srt_is (L : List Int) : Lib.compact (L.mergeSort fun x y => decide (x ≤ y)) = srt L := by
  have hp := List.mergeSort_perm L (fun x y => decide (x ≤ y))
  have hs : (L.mergeSort fun x y => decide (x ≤ y)).Pairwise (fun a b => (decide (a ≤ b)) = true) := List.pairwise_mergeSort (fun a b c h1 h2 => by simp at *; omega) (fun a b => by simp; omega) L
  generalize L.mergeSort (fun x y => decide (x ≤ y)) = S at hp hs
  have hd : ∀ i j, i ≤ j → j < S.toArray.size → S.toArray[i]! ≤ S.toArray[j]! := by
    intro i j hij hj
    have hj' : j < S.length := by simpa using hj
    by_cases e : i = j
    · subst e; exact Int.le_refl _
    · have := List.pairwise_iff_getElem.1 hs i j (by omega) hj' (by omega)
      simpa [getElem!_pos, hj', (show i < S.length by omega)] using this
  obtain ⟨h1, h2⟩ := compact_asc S.toArray hd S.length (by simp)
  refine asc_ext _ _ h1 (srt_asc L) (fun y => ?_)
  unfold Lib.compact
  rw [h2, srt_mem, ← hp.mem_iff]
  constructor
  · rintro ⟨j, hj, rfl⟩
    simp [getElem!_pos, hj]
  · intro hy
    obtain ⟨j, hj, rfl⟩ := List.getElem_of_mem hy
    exact ⟨j, hj, by simp [getElem!_pos, hj]⟩
theorem only_setCells (g : Nat) : ∀ (vs : List Value) (j : Nat) (a w : World), Only g a w → Only g a (w.setCells g j vs)
  | [], _, _, _, h => h
  | v :: r, j, a, w, h => only_setCells g r (j + 1) a _ (h.setCell j v)
theorem own_setCellsI {w : World} {g n : Nat} {f : Nat → Value} (O : Own w g n f) (ys : List Int) (hy : ys.length = n) : Own (w.setCells g 0 (ys.map (Value.int .i64))) g n (fun i => .int .i64 (ys.getD i 0)) := by
  refine ⟨fun i hi => ?_, fun i => ?_, Nat.lt_of_lt_of_le O.hi (only_setCells g _ 0 w w (Only.refl _ _)).size⟩
  · have h := World.cell?_setCells_in g (ys.map (Value.int .i64)) 0 w (fun j hj => by rw [Nat.zero_add, O.cell j (by simpa [hy] using hj)]; rfl) i (by simpa [hy] using hi)
    rw [Nat.zero_add] at h
    rw [h]
    have hi' : i < ys.length := by omega
    simp [List.getD, hi']
  · rw [World.frozen?_setCells]; exact O.free i
theorem below_grow (w : World) (os : Array Obj) : Below w.heap.size w (Sort.grow w os) := by
  refine ⟨rfl, rfl, rfl, by simp [Sort.grow], fun k hk => ?_⟩
  show (w.heap ++ os)[k]? = w.heap[k]?
  exact Array.getElem?_append_left hk
def srtd (L : List Int) : List Int := L.mergeSort fun x y => decide (x ≤ y)
theorem srtd_len (L : List Int) : (srtd L).length = L.length := List.length_mergeSort L
theorem sort73 (B g c : Nat) (L : List Int) (w : World) (O : Own w g L.length (fun i => .int .i64 (L.getD i 0))) (hB : B ≤ g) (hl : L.length ≤ 5000) : Calls Try.prog 73 #[.slice (some ⟨g, 0, none⟩) L.length c] w fun e w' => e = .returned (.tuple #[]) ∧ Own w' g L.length (fun i => .int .i64 ((srtd L).getD i 0)) ∧ Below B w w' := by
  have hH : Sort.Holds (Value.int .i64) w g 0 L.toArray := by
    have := Lib.holds_of_ints (w := w) (b := g) (off := 0) (n := L.length) (zs := L) (Nat.le_refl _) (fun j hj => by rw [Nat.zero_add]; exact O.cell j hj) (fun j hj => by rw [Nat.zero_add]; exact O.free j)
    rwa [List.take_of_length_le (Nat.le_refl _)] at this
  refine (Try.slices_Sort_int g 0 c L w hH O.hi (by omega)).mono ?_
  rintro e w' ⟨rfl, n, os, rfl⟩
  have E := Lib.putRow_eq_setCells (Value.int .i64) w g 0 L.toArray (srtd L) n hH (by rw [srtd_len]; simp)
  have E' : Sort.putRow (Value.int .i64) (Sort.ahead w n) g 0 (L.mergeSort fun x y => decide (x ≤ y)).toArray = (w.drewN n).setCells g 0 ((srtd L).map (Value.int .i64)) := E
  rw [E']
  have O1 := own_setCellsI (O.drewN n) (srtd L) (srtd_len L)
  have B0 := below_grow ((w.drewN n).setCells g 0 ((srtd L).map (Value.int .i64))) os
  refine ⟨rfl, O1.next B0, ?_⟩
  have U : Only g w ((w.drewN n).setCells g 0 ((srtd L).map (Value.int .i64))) := only_setCells g _ 0 w _ ((Only.refl g w).drewN n)
  have hs : B ≤ w.heap.size := Nat.le_trans hB (Nat.le_of_lt O.hi)
  exact (U.below hB hs).trans (B0.mono (Nat.le_trans hs U.size))
theorem compact74 (B g c : Nat) (L : List Int) (w : World) (O : Own w g L.length (fun i => .int .i64 ((srtd L).getD i 0))) (hB : B ≤ g) (hl : L.length ≤ 5000) (hc : L.length ≤ c) : Calls Try.prog 74 #[.slice (some ⟨g, 0, none⟩) L.length c] w fun e w' => ∃ v, e = .returned v ∧ IOwn B w' v (srt L) ∧ Below B w w' := by
  have hH := Try.slices_Compact_int_cells g 0 L.length c (srtd L) w (by rw [srtd_len]; exact Nat.le_refl _) (by omega) hc (fun j hj => by rw [Nat.zero_add]; exact O.cell j (by rw [← srtd_len]; exact hj)) (fun j hj => by rw [Nat.zero_add]; exact O.free j)
  rw [List.take_of_length_le (by rw [srtd_len]; exact Nat.le_refl _)] at hH
  rw [show Lib.compact (srtd L) = srt L from srt_is L] at hH
  refine hH.mono ?_
  rintro e w' ⟨rfl, q, rfl⟩
  have hle := srt_len L
  obtain ⟨ys, hys⟩ : ∃ ys, srt L ++ List.replicate (L.length - (srt L).length) 0 = ys := ⟨_, rfl⟩
  have hyl : ys.length = L.length := by rw [← hys]; simp; omega
  rw [hys]
  have O1 := own_setCellsI (O.drewN q) ys hyl
  refine ⟨_, rfl, Or.inr ⟨g, c, rfl, by omega, hB, O1.mono hle (fun i hi => ?_)⟩, ?_⟩
  · show Value.int .i64 ((srt L).getD i 0) = Value.int .i64 (ys.getD i 0)
    rw [← hys]
    simp [List.getD, List.getElem?_append_left hi]
  · exact (only_setCells g _ 0 w _ ((Only.refl g w).drewN q)).below hB (Nat.le_trans hB (Nat.le_of_lt O.hi))
set_option maxRecDepth 100000 in
set_option maxHeartbeats 4000000 in
theorem grow82 (n : Nat) (w : World) (hn : n ≤ 10000) : Calls Try.prog 85 #[.slice none 0 0, .int .i64 (n : Int)] w fun e w' => ∃ v, e = .returned v ∧ w'.ownsRow w.heap.size 3 1 v 0 [] ∧ Below w.heap.size w w' := by
  obtain ⟨i3, hi3, hz30, hz31, hz32⟩ := info_parts info3
  by_cases h0 : n = 0
  · subst h0
    go_enter Try.func85, Try.ntmps85
    go_wp2
    go_ret
    exact ⟨_, rfl, World.ownsRow_nil _ _ _ _, Below.refl _ _⟩
  · have n1 : (0 : Int) < (n : Int) := by omega
    have happ := Lib.run_append_nil_zeros (P := Try.prog) w 23 3 23 3 i3 (.int .i64 0) .i64 .i64 Try.underlying23 Try.underlying3 hi3 hz30 n (by omega) (by omega) (by omega) (by rw [hz32]; omega)
    generalize hcap : grownCap w n 0 3 = cap2 at happ
    have hcapge : n ≤ cap2 := by rw [← hcap]; exact grownCap_ge w _ 0 3
    have hcaple : cap2 ≤ maxLen := by rw [← hcap]; exact grownCap_le_maxLen w _ 0 3 (by unfold maxLen; omega)
    generalize hZ : (Builtin.zeroCells (Value.int .i64 0).cells n ++ Builtin.zeroCells (Value.int .i64 0).cells (cap2 - n)) = Z at happ
    have hZs : Z.size = cap2 := by rw [← hZ]; simp [size_zeroCells, Value.cells]; omega
    have hO : Hid ((w.drew.alloc (.cells Z 3)).ownsRow w.heap.size 3 1 (.slice (some ⟨w.heap.size, 0, none⟩) 0 cap2) 0 []) := World.ownsRow_made (base := w.heap.size) w.drew Z cap2 (Nat.le_refl _) hcaple (by rw [hZs]; omega)
    have hB : Hid (Below w.heap.size w (w.drew.alloc (.cells Z 3))) := (below_drew (Below.refl _ _)).alloc (Nat.le_refl _) _
    obtain ⟨w2, hw2⟩ : ∃ w2, w.drew.alloc (.cells Z 3) = w2 := ⟨_, rfl⟩
    rw [hw2] at happ hO hB
    have c0 : (0 : Int) ≤ (cap2 : Int) := by omega
    have c1 : (0 : Int) ≤ (n : Int) := by omega
    clear hw2 hZ hZs hcap
    go_enter Try.func85, Try.ntmps85
    go_wp2_with (at_builtin; refine Lib.wpList_append_run _ rfl _ _ _ _ rfl _ _ rfl rfl _ _ happ ?_)
    go_ret
    exact ⟨_, rfl, hO.out, hB.out⟩
/-- Lists one behind the other. -/
def catL (f : Nat → List Int) : Nat → List Int
  | 0 => []
  | k + 1 => catL f k ++ f k
theorem cat_len (f : Nat → List Int) : ∀ k, (catL f k).length = offs (fun x => (f x).length) k
  | 0 => rfl
  | k + 1 => by rw [catL, List.length_append, cat_len f k, offs]
theorem run_append_none {P : Program} (w : World) (t ty e : TypeId) (i : TypeInfo) (ht : P.underlying t = some (.slice e)) (hi : P.info? e = some i) (a b : Option Addr) (n cap c : Nat) (h : n ≤ cap) : (Builtin.append_ #[t, t] ty #[.slice a n cap, .slice b 0 c]).run P w = .ok (.slice a n cap) w := by
  cases a <;> cases b <;> simp [Builtin.append_, run_underlying ht, sizeOf, typeInfo, hi, Builtin.lenOf, h, Builtin.firstCells, storeCells, loadCells, loadCellsFrom]
set_option maxRecDepth 100000 in
set_option maxHeartbeats 8000000 in
theorem concat72 (m : Nat) (f : Nat → List Int) (u : Value) (w : World) (hm : m ≤ 600) (hU : ARows w u m f) (hT : offs (fun x => (f x).length) m ≤ 5000) : Calls Try.prog 72 #[u] w fun e w' => ∃ v, e = .returned v ∧ IOwn w.heap.size w' v (catL f m) ∧ Below w.heap.size w w' := by
  obtain ⟨i3, hi3, hz30, hz31, hz32⟩ := info_parts info3
  obtain ⟨ad, cp, rfl, hc⟩ := hU
  have HR := Hid.mk hc
  have HO : Hid (∀ k, k ≤ m → offs (fun x => (f x).length) k ≤ 5000) := fun k hk => Nat.le_trans (offs_mono _ hk) hT
  have HS : Hid (∀ k, offs (fun x => (f x).length) (k + 1) = offs (fun x => (f x).length) k + (f k).length) := fun k => rfl
  have HCl : Hid (∀ k, (catL f k).length = offs (fun x => (f x).length) k) := cat_len f
  generalize offs (fun x => (f x).length) = T at hT HO HS HCl
  have HT0 : Hid (T 0 = 0) := by show _ = _; rw [← HCl.out]; rfl
  clear hc
  go_enter Try.func72, Try.ntmps72
  go_wp2
  go_loop [3, 11] (fun q i => ∃ k : Nat, k ≤ m ∧ i = .int .i64 k ∧ q = .int .i64 ((T k : Nat) : Int)) (fun _ i => m - (intOf i).toNat)
  case atStart => exact ⟨0, Nat.zero_le _, rfl, by rw [HT0.out]; rfl⟩
  case round =>
    obtain ⟨k, hk, rfl, rfl⟩ := hrel
    by_cases hkn : k < m
    · have i1 : (k : Int) < (m : Int) := by omega
      have i0 : (0 : Int) ≤ (k : Int) := by omega
      obtain ⟨g, o, uu, rfl, ck, a2, c2, rfl, _⟩ := HR.out k hkn
      have h1 := HO.out k (by omega)
      have h2 := HO.out (k + 1) (by omega)
      have h3 := HS.out k
      obtain ⟨z, hz⟩ : ∃ z, T (k + 1) = z := ⟨_, rfl⟩
      have HZ : Hid (T (k + 1) = z) := hz
      rw [hz] at h2 h3
      have HZ2 : Hid (z = T k + (f k).length) := h3
      generalize (f k).length = y at ck h3 HZ2
      generalize T k = x at h1 h3 HZ2 ⊢
      have z1 : ¬ ((x : Int) + (y : Int)) < 0 := by omega
      have hy : y ≤ 5000 := by omega
      clear hz h3
      go_wp2
      go_round
      case rel => exact ⟨k + 1, by omega, by go_num, by rw [HZ.out, HZ2.out]; first | rfl | simp⟩
      case measure => simp [intOf]; omega
    · obtain rfl : m = k := by omega
      have i1 : ¬ (m : Int) < (m : Int) := by omega
      have h1 := HO.out m (Nat.le_refl _)
      have h82 := grow82 (T m) w (by omega)
      go_wp2_with (go_at_call 85; refine h82.mono ?_; rintro e w1 ⟨v1, rfl, O1, B1⟩)
      have R1 : Hid (Ri w.heap.size w1 v1 (catL f 0)) := ⟨O1, B1.size⟩
      have HB1 : Hid (Below w.heap.size w w1) := B1
      clear O1 B1 h82
      go_loopw [6, 27] (fun vv i wr => ∃ (k : Nat) (u : Value), k ≤ m ∧ i = .int .i64 k ∧ u = vv ∧ Hid (Ri w.heap.size wr u (catL f k)) ∧ Hid (Below w.heap.size w wr)) (fun _ i _ => m - (intOf i).toNat)
      case atStart => exact ⟨0, _, Nat.zero_le _, rfl, rfl, R1, HB1⟩
      case round =>
        obtain ⟨k, u, hk, rfl, rfl, HU, HB⟩ := hrel
        clear R1 HB1
        by_cases hkn : k < m
        · have i1 : (k : Int) < (m : Int) := by omega
          have i0 : (0 : Int) ≤ (k : Int) := by omega
          obtain ⟨g, o, uu, rfl, ck0, a2, c2, rfl, hc2⟩ := HR.out k hkn
          have ck := cell_nx ck0 HB.out
          have HC : Hid (catL f (k + 1) = catL f k ++ f k) := rfl
          have HLn : Hid ((catL f k).length + (f k).length ≤ 5000) := by show _ ≤ _; rw [HCl.out, ← HS.out]; exact HO.out (k + 1) (by omega)
          have HCC : Hid (∀ j, j < (f k).length → ∃ g o, a2 = some ⟨g, o, none⟩ ∧ w.cell? ⟨g, o + j, none⟩ = some (.int .i64 ((f k).getD j 0))) := hc2
          generalize catL f k = Q at HU HC HLn
          generalize f k = A at ck HC HLn HCC
          clear ck0 hc2
          by_cases eA : A = []
          · subst eA
            have HC : Hid (catL f (k + 1) = Q) := by have := HC.out; show _ = _; rw [this]; simp
            have U3 : Hid (Ri w.heap.size wr u (catL f (k + 1))) := by show Ri _ _ _ _; rw [HC.out]; exact HU.out
            obtain ⟨au, cu, hu, hcu⟩ : ∃ au cu, u = .slice au Q.length cu ∧ Q.length ≤ cu := by
              rcases HU.out.1.2 with ⟨hv, h0⟩ | ⟨gg, cap, cur, hv, _, _, h3, _⟩
              · exact ⟨none, 0, by rw [hv, h0], by omega⟩
              · exact ⟨_, _, hv, h3⟩
            subst hu
            have happ := run_append_none (P := Try.prog) wr 23 23 3 i3 Try.underlying23 hi3 au a2 Q.length cu c2 hcu
            simp only [List.length_nil] at ck
            clear HU
            go_wp2_with (at_builtin; refine Lib.wpList_append_run _ rfl _ _ _ _ rfl _ _ rfl rfl _ _ happ ?_)
            go_roundw
            case rel => exact ⟨k + 1, _, by omega, by go_num, rfl, U3, HB⟩
            case measure => simp [intOf]; omega
          · have hA := List.length_pos_iff.2 eA
            obtain ⟨ga, oa, rfl, _⟩ := HCC.out 0 hA
            have HCD : Hid (∀ j, j < A.length → wr.cell? ⟨ga, oa + j, none⟩ = some (.int .i64 (A.getD j 0))) := fun j hj => by
              obtain ⟨g', o', h1, h2⟩ := HCC.out j hj
              injection h1 with h1
              injection h1 with h1 h3
              subst h1
              subst h3
              exact cell_nx h2 HB.out
            go_wp2_with (at_builtin; refine wpList_append_own _ rfl _ _ 23 rfl w.heap.size 3 i3 (.int .i64 0) 1 8 Try.underlying23 hi3 hz30 hz31 hz32 rfl (by decide) _ _ _ rfl HU.out.1 ⟨ga, oa, none⟩ A.length c2 (il A) rfl ?c0 ?c1 ?c2 ?c3 ?c4 ?c5 ?_)
            case c0 => simp [il]
            case c1 =>
              intro j u hj
              have hjl : j < A.length := by have := (List.getElem?_eq_some_iff.1 hj).1; simpa [il] using this
              rw [Addr.add_lit, HCD.out j hjl]
              simp [il, hjl] at hj
              rw [← hj]
              simp [List.getD, hjl]
            case c2 =>
              intro u hu
              simp [il] at hu
              obtain ⟨_, _, rfl⟩ := hu
              rfl
            case c3 => have := HLn.out; (try unfold maxLen); omega
            case c4 => have := HLn.out; omega
            case c5 => have := HB.out.size; omega
            intro v3 w3 hown hgrow _
            have B3 : Hid (Below w.heap.size w w3) := HB.out.grown hgrow HB.out.size (fun q hq => (HU.out.lt q hq).1)
            have U3 : Hid (Ri w.heap.size w3 v3 (catL f (k + 1))) := by
              show Ri _ _ _ _
              rw [HC.out]
              refine ⟨?_, B3.out.size⟩
              rw [List.length_append, il_app]
              exact hown
            clear hown hgrow HU HB
            go_wp2
            go_roundw
            case rel => exact ⟨k + 1, _, by omega, by go_num, rfl, U3, B3⟩
            case measure => simp [intOf]; omega
        · obtain rfl : m = k := by omega
          have i1 : ¬ (m : Int) < (m : Int) := by omega
          have IE : Hid (IOwn w.heap.size wr u (catL f m)) := HU.out.own
          clear HU
          go_wp2
          go_ret
          exact ⟨_, rfl, IE.out, HB.out⟩
def two (A B : List Int) : Nat → List Int := fun i => if i = 0 then A else B
theorem cat_two (A B : List Int) : catL (two A B) 2 = A ++ B := by simp [catL, two]
set_option maxRecDepth 100000 in
set_option maxHeartbeats 4000000 in
theorem union46 (u v : Value) (A B : List Int) (w : World) (hn : A.length + B.length ≤ 5000) (hA : ARow w u A) (hB : ARow w v B) : Calls Try.prog 44 #[u, v] w fun e w' => ∃ z, e = .returned z ∧ IOwn w.heap.size w' z (srt (A ++ B)) ∧ Below w.heap.size w w' := by
  obtain ⟨a1, c1, hu, _⟩ := id hA
  obtain ⟨a2, c2, hv, _⟩ := id hB
  have BA : Below w.heap.size w (w.alloc (.cells #[u, v] 23)) := (Below.refl _ _).alloc (Nat.le_refl _) _
  have AR : ARows (w.alloc (.cells #[u, v] 23)) (.slice (some ⟨w.heap.size, 0, none⟩) 2 2) 2 (two A B) := ⟨_, _, rfl, fun i hi => by
    rcases (show i = 0 ∨ i = 1 by omega) with rfl | rfl
    · exact ⟨w.heap.size, 0, u, rfl, by simp, hA.next BA⟩
    · exact ⟨w.heap.size, 0, v, rfl, by simp, hB.next BA⟩⟩
  have h72 := concat72 2 (two A B) _ _ (by omega) AR (by simp [offs, two]; omega)
  rw [cat_two] at h72
  have HBA : Hid (Below w.heap.size w (w.alloc (.cells #[u, v] 23))) := BA
  have hl : (A ++ B).length ≤ 5000 := by rw [List.length_append]; exact hn
  rw [hu, hv] at h72 HBA ⊢
  generalize A ++ B = L at h72 hl ⊢
  clear hA hB AR BA hu hv
  go_enter Try.func44, Try.ntmps44
  go_wp2_with (go_at_call 72; refine h72.mono ?_; rintro e w1 ⟨v1, rfl, I1, B1⟩)
  have HB1 : Hid (Below w.heap.size w w1) := HBA.out.trans (B1.mono HBA.out.size)
  have I1' : IOwn w.heap.size w1 v1 L := I1.low HBA.out.size
  clear B1 h72 HBA I1
  rcases I1' with ⟨rfl, rfl⟩ | ⟨g, cp, rfl, h1, h2, O1⟩
  · have h73 : Calls Try.prog 73 #[.slice none 0 0] w1 fun e w' => e = .returned (.tuple #[]) ∧ w' = w1 := Try.slices_Sort_int_none none 0 w1
    have h74 : Calls Try.prog 74 #[.slice none 0 0] w1 fun e w' => e = .returned (.slice none 0 0) ∧ w' = w1 := Try.slices_Compact_int_empty none 0 w1
    go_wp2_with (first | (go_at_call 73; refine h73.mono ?_; rintro e w2 ⟨rfl, hw⟩; subst w2) | (go_at_call 74; refine h74.mono ?_; rintro e w2 ⟨rfl, hw⟩; subst w2))
    go_ret
    exact ⟨_, rfl, Or.inl ⟨rfl, rfl⟩, HB1.out⟩
  · have h73 := sort73 w.heap.size g cp L w1 O1 h2 hl
    have H74 : Hid (∀ v, Own v g L.length (fun i => .int .i64 ((srtd L).getD i 0)) → Calls Try.prog 74 #[.slice (some ⟨g, 0, none⟩) L.length cp] v fun e w' => ∃ z, e = .returned z ∧ IOwn w.heap.size w' z (srt L) ∧ Below w.heap.size v w') := fun v O => compact74 w.heap.size g cp L v O h2 hl h1
    go_wp2_with (first | (go_at_call 73; refine h73.mono ?_; rintro e w2 ⟨rfl, O2, B2⟩) | (go_at_call 74; refine (H74.out w2 O2).mono ?_; rintro e w3 ⟨z, rfl, I3, B3⟩))
    go_ret
    exact ⟨_, rfl, I3, (HB1.out.trans B2).trans B3⟩
end Go.Proofs.Ytfhpjcojccfcoaa
