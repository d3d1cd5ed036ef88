/- Hits sorted: what the program's sort leaves. -/
import Derived.Shelf.SlSortCmp.NoneTotal
import Derived.Test.YtngmaeinehfimaaShelf
import Derived.Test.YtngmaeinehfimaaMg
import Derived.Test.YtngmaeinehfimaaMf
namespace Go.Proofs.Ytngmaeinehfimaa
open Go.ChangeShapes Go.WideShapes Go.ChangeAt Go.RowKit Go.Sort Go.Shelf
set_option linter.unusedVariables false
/-- A hit as the program sorts it. -/
abbrev Hk := {t : TupH // MB t.2.1 t.2.2}
instance hkInh : Inhabited Hk := ⟨⟨(0, 0, 1), ⟨⟨by decide, by decide⟩, by decide, by decide⟩⟩⟩
def encH (x : Hk) : List Value := [.int .i64 x.1.1, .int .i64 x.1.2.1, .int .i64 x.1.2.2]
def cfH (x y : Hk) : Int := cfI x.1.1 x.1.2.1 x.1.2.2 y.1.1 y.1.2.1 y.1.2.2
theorem lt_cfH {x y : Hk} : ltOf cfH x y = true ↔ ltH x.1 y.1 := by
  unfold ltOf cfH
  rw [decide_eq_true_eq]
  exact cfI_lt
theorem lt_cfH0 {x y : Hk} : ltOf cfH x y = false ↔ ¬ ltH x.1 y.1 := by
  rw [← lt_cfH]
  cases ltOf cfH x y <;> simp
theorem nlt {x y : TupH} : ¬ ltH x y ↔ geH x y ∧ (geH y x → y.1 ≤ x.1) := by
  unfold ltH
  constructor
  · intro h
    refine ⟨Classical.byContradiction fun k => h (Or.inl k), fun k => ?_⟩
    by_cases e : x.1 < y.1
    · exact absurd (Or.inr ⟨k, e⟩) h
    · omega
  · rintro ⟨h1, h2⟩ (k | ⟨k1, k2⟩)
    · exact k h1
    · have := h2 k1; omega
theorem swoH : SWO (ltOf cfH) where
  irrefl x := lt_cfH0.2 (fun h => ltH_irrefl h)
  trans x y z h k := lt_cfH.2 (ltH_trans x.2.2.1 y.2.2.1 z.2.2.1 (lt_cfH.1 h) (lt_cfH.1 k))
  ntrans x y z h k := by
    rw [lt_cfH0, nlt] at *
    refine ⟨geH_trans x.2.2.1 y.2.2.1 z.2.2.1 h.1 k.1, fun g => ?_⟩
    have h1 : geH y.1 x.1 := geH_trans y.2.2.1 z.2.2.1 x.2.2.1 k.1 g
    have h2 : geH z.1 y.1 := geH_trans z.2.2.1 x.2.2.1 y.2.2.1 g h.1
    have := h.2 h1
    have := k.2 h2
    omega
theorem cmpLays (blk off size : Nat) (w : World) : CmpLays Try.prog 76 #[] encH 3 cfH blk off size w :=
  fun _ _ _ _ x y => (pcmpH x.1.1 x.1.2.1 x.1.2.2 y.1.1 y.1.2.1 y.1.2.2 _ x.2 y.2).mono fun _ _ ⟨h1, h2⟩ => ⟨h1, h2.grow⟩
section
variable {P : Nat → Bool} {A D : Nat → Int} {n : Nat}
/-- The hits as the program has them ahead of its sort. -/
def hkA (h : ∀ x, x ∈ hitsU P A D n → MB x.2.1 x.2.2) : Array Hk := ((hitsU P A D n).attach.map fun x => (⟨x.1, h x.1 x.2⟩ : Hk)).toArray
theorem hkA_list (h : ∀ x, x ∈ hitsU P A D n → MB x.2.1 x.2.2) : (hkA h).toList.map (fun x => x.1) = hitsU P A D n := by
  unfold hkA
  rw [List.toList_toArray, List.map_map]
  exact List.attach_map_subtype_val _
theorem hkA_size (h : ∀ x, x ∈ hitsU P A D n → MB x.2.1 x.2.2) : (hkA h).size = (hitsU P A D n).length := by unfold hkA; simp
theorem hkA_at (h : ∀ x, x ∈ hitsU P A D n → MB x.2.1 x.2.2) {i : Nat} (hi : i < (hitsU P A D n).length) : (hkA h)[i]!.1 = (hitsU P A D n).getD i (0, 0, 0) := by
  have e := hkA_list h
  have hs := hkA_size h
  have h1 : ((hkA h).toList.map (fun x => x.1)).getD i (0, 0, 0) = (hitsU P A D n).getD i (0, 0, 0) := by rw [e]
  rw [← h1]
  rw [getElem!_pos (hkA h) i (by omega)]
  simp [List.getD, show i < (hkA h).size by omega]
end
theorem get_of_at {d : Array Hk} {L : List TupH} {w : World} {g : Nat} (hL : d.toList.map (fun x => x.1) = L) (hH : HoldsK encH 3 w g 0 d) (hg : g < w.heap.size) (hf : ∀ i, w.frozen? ⟨g, i, none⟩ = false) : RowH w g L.length (atH0 L) (atH1 L) (atH2 L) := by
  have hs : d.size = L.length := by rw [← hL]; simp
  have hat : ∀ i, i < L.length → d[i]!.1 = L.getD i (0, 0, 0) := fun i hi => by
    rw [← hL, getElem!_pos d i (by omega)]
    simp [List.getD, show i < d.size by omega]
  refine ⟨fun i hi => ?_, fun i hi => ?_, fun i hi => ?_, hf, hg⟩
  · have h := (HoldsK.cell hH (i := i) (c := 0) (by omega) (by omega)).1
    rw [Nat.zero_add, Nat.add_zero] at h
    rw [h]
    unfold atH0
    rw [← hat i hi]
    rfl
  · have h := (HoldsK.cell hH (i := i) (c := 1) (by omega) (by omega)).1
    rw [Nat.zero_add] at h
    rw [h]
    unfold atH1
    rw [← hat i hi]
    rfl
  · have h := (HoldsK.cell hH (i := i) (c := 2) (by omega) (by omega)).1
    rw [Nat.zero_add] at h
    rw [h]
    unfold atH2
    rw [← hat i hi]
    rfl
theorem holds_of {d : Array Hk} {L : List TupH} {w : World} {B g m c : Nat} (hL : d.toList.map (fun x => x.1) = L) (R : HR B w (.slice (some ⟨g, 0, none⟩) m c) L) (hf : ∀ i, w.frozen? ⟨g, i, none⟩ = false) : HoldsK encH 3 w g 0 d := by
  have hs : d.size = L.length := by rw [← hL]; simp
  have hat : ∀ i, i < L.length → d[i]!.1 = L.getD i (0, 0, 0) := fun i hi => by
    rw [← hL, getElem!_pos d i (by omega)]
    simp [List.getD, show i < d.size by omega]
  intro j hj
  rw [size_flatK, hs] at hj
  rw [get_flatK _ _ _ _ (by rw [hs]; exact hj), Nat.zero_add]
  refine ⟨?_, hf j⟩
  have hq : j / 3 < L.length := by omega
  obtain ⟨c0, c1, c2⟩ := R.at hq
  have h3 : j % 3 = 0 ∨ j % 3 = 1 ∨ j % 3 = 2 := by omega
  rcases h3 with h | h | h
  · rw [h, show j = j / 3 * 3 from by omega, c0, show j / 3 * 3 / 3 = j / 3 from by omega]
    unfold atH0
    rw [← hat _ hq]
    rfl
  · rw [h, show j = j / 3 * 3 + 1 from by omega, c1, show (j / 3 * 3 + 1) / 3 = j / 3 from by omega]
    unfold atH1
    rw [← hat _ hq]
    rfl
  · rw [h, show j = j / 3 * 3 + 2 from by omega, c2, show (j / 3 * 3 + 2) / 3 = j / 3 from by omega]
    unfold atH2
    rw [← hat _ hq]
    rfl
theorem sort_below (d' : Array Hk) (w : World) (g n : Nat) (os : Array Obj) (hg : g < w.heap.size) : Go.RowKit.Below g w (sortWorldK encH 3 w g 0 n d' os) := by
  have hsz : w.heap.size ≤ (sortWorldK encH 3 w g 0 n d' os).heap.size := size_sortWorldK_c encH 3 w g 0 n d' os
  refine ⟨rfl, rfl, rfl, hsz, fun k hk => ?_⟩
  unfold sortWorldK putRowK putRow mapBlock Go.Sort.grow Go.Sort.ahead
  rw [Array.getElem?_append_left (by simp; omega), Array.getElem?_modify, if_neg (by omega)]
set_option maxRecDepth 100000 in
set_option maxHeartbeats 2000000 in
/-- What the program's sort leaves of the hits as they come: the hits in order. -/
theorem psortH {P : Nat → Bool} {A D : Nat → Int} {n : Nat} (B g cap : Nat) (w : World) (R : HR B w (.slice (some ⟨g, 0, none⟩) (hitsU P A D n).length cap) (hitsU P A D n)) (hD : ∀ i, i < n → P i = true → MB (A i) (D i)) (hn : n ≤ 24) :
    Calls Try.prog 75 #[.slice (some ⟨g, 0, none⟩) (hitsU P A D n).length cap, .func (.func 76) #[] #[]] w fun e w' => e = .returned (.tuple #[]) ∧ (hitsM P A D n).length = (hitsU P A D n).length ∧ RowH w' g (hitsM P A D n).length (atH0 (hitsM P A D n)) (atH1 (hitsM P A D n)) (atH2 (hitsM P A D n)) ∧ Go.RowKit.Below g w w' := by
  have hm : ∀ x, x ∈ hitsU P A D n → MB x.2.1 x.2.2 := fun x hx => by
    obtain ⟨i, hi, hp, rfl⟩ := hitsU_mem hx
    exact hD i hi hp
  have hf : ∀ i, w.frozen? ⟨g, i, none⟩ = false := fun i => R.1.frozenAt i
  have hg : g < w.heap.size := (R.lt g rfl).2
  have hL := hkA_list hm
  have hs := hkA_size hm
  generalize hkA hm = d at hL hs
  have hH := holds_of hL R hf
  have eg : ∀ args w, (callFunc 76 args).run Try.prog w = .ok (.enter 76 args) w := enters_of Try.func76 (by kernel_rfl) rfl
  have hcon := AnyQ.slices_SortFunc Try.sortHit 3 Try.isAgg45 Try.sizeOf45 encH (fun _ => rfl) (fun x v hv => by simp [encH] at hv; rcases hv with rfl | rfl | rfl <;> rfl) cfH swoH 76 #[] g 0 cap d w eg (cmpLays g 0 d.size w) hH hg (by have := hitsU_len (P := P) (A := A) (D := D) n; omega)
  change Calls Try.prog 75 _ _ _ at hcon
  rw [hs] at hcon
  refine hcon.mono ?_
  rintro e w' ⟨rfl, d', q, os, hp, hso, rfl⟩
  have hs' : d'.size = d.size := hp.1
  have hH' := holdsK_sortWorldK_c encH 3 w g 0 d d' q os hH hg hs'
  have hM : d'.toList.map (fun x => x.1) = hitsM P A D n := by
    refine sorted_hits (fun i hi hp => (hD i hi hp).2.1) ?_ (fun i j hi hj hij => ?_)
    · rw [← hL]
      have h2 := hp.2.2
      rw [← hs, ← hs', Array.extract_size, hs', Array.extract_size] at h2
      exact h2.map _
    · have hi2 : i < d'.size := by simpa using hi
      have hj2 : j < d'.size := by simpa using hj
      have h1 := hso i j (Nat.zero_le _) hij (by omega)
      rw [getElem!_pos d' j hj2, getElem!_pos d' i hi2, lt_cfH0] at h1
      simpa using h1
  refine ⟨rfl, by rw [← hM]; simp; omega, ?_, sort_below d' w g q os hg⟩
  refine get_of_at hM hH' (Nat.lt_of_lt_of_le hg (size_sortWorldK_c encH 3 w g 0 q d' os)) (fun i => ?_)
  have h := hf i
  unfold sortWorldK putRowK
  rw [frozen?_grow _ _ _ (by rw [size_putRow]; exact hg), frozen?_putRow]
  exact h
end Go.Proofs.Ytngmaeinehfimaa
