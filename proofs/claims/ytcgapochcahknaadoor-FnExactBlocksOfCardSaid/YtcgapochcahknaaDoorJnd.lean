/- The program's joined: several rows of numbers as one set; conditions: each number is one from 0 to 599, and the rows stand in memory. -/
import Derived.Test.YtcgapochcahknaaDoorArr
import Derived.Test.YtcgapochcahknaaDoorRds
namespace Go.Proofs.YtcgapochcahknaaDoor
open Go.ChangeShapes Go.WideShapes Go.ChangeAt Go.RowKit
set_option linter.unusedVariables false
/-- Whether a number stands in a list. -/
def memB (L : List Int) (i : Nat) : Bool := decide ((i : Int) ∈ L)
theorem memB_snoc (M : List Int) (t : Int) (h : 0 ≤ t) (i : Nat) : memB (M ++ [t]) i = if i = t.toNat then true else memB M i := by
  unfold memB
  by_cases e : i = t.toNat
  · rw [if_pos e]
    apply decide_eq_true
    rw [List.mem_append]
    right
    have : (i : Int) = t := by omega
    rw [this]
    exact List.mem_singleton.2 rfl
  · rw [if_neg e]
    have : ¬ (i : Int) = t := by omega
    simp [this]
/-- What comes of the first k rows and j of the next one. -/
def jnL (Ls : List (List Int)) (k j : Nat) : List Int := (Ls.take k).flatten ++ (Ls.getD k []).take j
theorem jnL_row (Ls : List (List Int)) (k : Nat) (hk : k < Ls.length) : jnL Ls (k + 1) 0 = jnL Ls k (Ls.getD k []).length := by
  unfold jnL
  rw [List.take_add_one, List.flatten_append]
  simp [List.getD, hk]
theorem jnL_one (Ls : List (List Int)) (k j : Nat) (hj : j < (Ls.getD k []).length) : jnL Ls k (j + 1) = jnL Ls k j ++ [(Ls.getD k []).getD j 0] := by
  unfold jnL
  rw [List.take_add_one, List.append_assoc]
  generalize Ls.getD k [] = L at hj
  simp [List.getD, hj]
theorem jnL_all (Ls : List (List Int)) : jnL Ls Ls.length 0 = Ls.flatten := by simp [jnL]
/-- Rows of numbers whose slices stand in a row. -/
def Sets (w : World) (g : Nat) (Ls : List (List Int)) : Prop := ∀ i, i < Ls.length → ∃ v, w.cell? ⟨g, i, none⟩ = some v ∧ IRow w v (Ls.getD i [])
theorem Sets.next {w w' : World} {g : Nat} {Ls : List (List Int)} (h : Sets w g Ls) (b : Below w.heap.size w w') : Sets w' g Ls := fun i hi => by
  obtain ⟨v, hc, r⟩ := h i hi
  exact ⟨v, (b.cell (World.block_lt_of_cell? _ _ hc)).trans hc, r.next b⟩
/-- What holds while the rows are gone through. -/
def JnI (w wx : World) (M : List Int) : Prop := Own wx (w.heap.size + 1) 600 (fun i => .bool (memB M i)) ∧ Own wx w.heap.size 600 (fun _ => .bool false) ∧ Below w.heap.size w wx
theorem JnI.put {w wx : World} {M : List Int} (h : JnI w wx M) (t : Int) (t0 : 0 ≤ t) (t1 : t < 600) : JnI w (wx.setCell ⟨w.heap.size + 1, t.toNat, none⟩ (.bool true)) (M ++ [t]) := by
  refine ⟨h.1.set t.toNat _ (by omega) fun i hi => ?_, h.2.1.but ((Only.refl _ _).setCell _ _) (by omega), h.2.2.setCell (p := ⟨w.heap.size + 1, t.toNat, none⟩) (by show w.heap.size ≤ w.heap.size + 1; omega) _⟩
  rw [memB_snoc M t t0 i]
  by_cases e : i = t.toNat
  · rw [if_pos e, if_pos e]
  · rw [if_neg e, if_neg e]
set_option maxRecDepth 100000 in
set_option maxHeartbeats 4000000 in
theorem joined78 (g n cap : Nat) (Ls : List (List Int)) (w : World) (hn : Ls.length = n) (SR : Sets w g Ls) (hb : ∀ L, L ∈ Ls → ∀ t, t ∈ L → 0 ≤ t ∧ t < 600) (n1 : n ≤ 1000) (m1 : ∀ L, L ∈ Ls → L.length ≤ 4000) : Calls Tryd.prog 92 #[.slice (some ⟨g, 0, none⟩) n cap] w fun e w' => e = .returned (.agg (bits (memB Ls.flatten))) ∧ Below w.heap.size w w' := by
  have z44 := zv44
  have HS : Hid (Sets w g Ls) := SR
  have HB : Hid (∀ L, L ∈ Ls → ∀ t, t ∈ L → 0 ≤ t ∧ t < 600) := hb
  have HM : Hid (∀ L, L ∈ Ls → L.length ≤ 4000) := m1
  have HN : Hid (Ls.length = n) := hn
  have J0 : Hid (JnI w ((w.alloc (.cells (bits fun _ => false) 84)).alloc (.cells (bits fun _ => false) 84)) (jnL Ls 0 0)) := by
    have O1 : Own (w.alloc (.cells (bits fun _ => false) 84)) w.heap.size 600 (fun _ => .bool false) := own_vals w _ 600 84
    have O2 := own_vals (w.alloc (.cells (bits fun _ => false) 84)) (fun _ => .bool false) 600 84
    rw [World.size_alloc] at O2
    have B2 : Below (w.alloc (.cells (bits fun _ => false) 84)).heap.size (w.alloc (.cells (bits fun _ => false) 84)) ((w.alloc (.cells (bits fun _ => false) 84)).alloc (.cells (bits fun _ => false) 84)) := (Below.refl _ _).alloc (Nat.le_refl _) _
    exact ⟨O2.mono (Nat.le_refl _) fun i _ => by simp [jnL, memB], O1.next B2, ((Below.refl _ _).alloc (Nat.le_refl _) _).alloc (by simp) _⟩
  clear SR hb m1 hn
  go_enter Tryd.func92, Tryd.ntmps92
  go_wp2
  go_loopw [10] (fun i wx => ∃ k : Nat, k ≤ n ∧ i = .int .i64 k ∧ Hid (JnI w wx (jnL Ls k 0))) (fun i _ => n - (intOf i).toNat)
  case atStart => exact ⟨0, by omega, rfl, J0⟩
  case round =>
    obtain ⟨k, hk, rfl, HJ⟩ := hrel
    clear J0
    by_cases hkn : k < n
    · have i1 : (k : Int) < (n : Int) := by omega
      have i0 : (0 : Int) ≤ (k : Int) := by omega
      have HK : Hid (k < Ls.length) := by show _ < _; rw [HN.out]; exact hkn
      obtain ⟨v, hc0, r⟩ := HS.out k HK.out
      have hc := (HJ.out.2.2.cell (World.block_lt_of_cell? _ _ hc0)).trans hc0
      have HL : Hid (Ls.getD k [] ∈ Ls) := by show _ ∈ _; simp [List.getD, HK.out]
      have HR : Hid (jnL Ls (k + 1) 0 = jnL Ls k (Ls.getD k []).length) := jnL_row Ls k HK.out
      have HO : Hid (∀ j, j < (Ls.getD k []).length → jnL Ls k (j + 1) = jnL Ls k j ++ [(Ls.getD k []).getD j 0]) := fun j hj => jnL_one Ls k j hj
      have HM1 := HM.out _ HL.out
      have HB1 : Hid (∀ t, t ∈ Ls.getD k [] → 0 ≤ t ∧ t < 600) := HB.out _ HL.out
      generalize Ls.getD k [] = L at HR HO HM1 HB1 r
      clear HL HK hc0
      rcases r with ⟨rfl, rfl⟩ | ⟨g1, c1, rfl, hc1, O1⟩
      · go_wp2
        go_loopw [16] (fun i wx => i = .int .i64 0 ∧ wx = wr) (fun _ _ => 0)
        case atStart => exact ⟨rfl, rfl⟩
        case round =>
          obtain ⟨rfl, rfl⟩ := hrel
          go_wp2
          go_roundw
          case rel => exact ⟨k + 1, by omega, by go_num, by rw [HR.out]; exact HJ⟩
          case measure => simp [intOf]; omega
      · have HO1 : Hid (Own w g1 L.length fun i => .int .i64 (L.getD i 0)) := O1
        obtain ⟨m, hm⟩ : ∃ m, L.length = m := ⟨_, rfl⟩
        have Hm : Hid (L.length = m) := hm
        rw [hm] at HM1 hc1 HR hc
        clear O1 hm
        go_wp2
        clear hc
        go_loopw [16] (fun i wx => ∃ j : Nat, j ≤ m ∧ i = .int .i64 j ∧ Hid (JnI w wx (jnL Ls k j))) (fun i _ => m - (intOf i).toNat)
        case atStart => exact ⟨0, by omega, rfl, HJ⟩
        case round =>
          obtain ⟨j, hj, rfl, HI⟩ := hrel
          clear HJ
          by_cases hjm : j < m
          · have j1 : (j : Int) < (m : Int) := by omega
            have j0 : (0 : Int) ≤ (j : Int) := by omega
            have c1 := (HI.out.2.2.cell (p := ⟨g1, j, none⟩) HO1.out.hi).trans (HO1.out.cell j (by rw [Hm.out]; exact hjm))
            have hJ : Hid (jnL Ls k (j + 1) = jnL Ls k j ++ [L.getD j 0]) := HO.out j (by rw [Hm.out]; exact hjm)
            obtain ⟨t0, t1⟩ := HB1.out (L.getD j 0) (by have : j < L.length := by rw [Hm.out]; exact hjm
                                                        simp [List.getD, this])
            generalize L.getD j 0 = t at c1 hJ t0 t1
            have HI2 : Hid (JnI w (wr.setCell ⟨w.heap.size + 1, t.toNat, none⟩ (.bool true)) (jnL Ls k (j + 1))) := by
              rw [hJ.out]; exact HI.out.put t t0 t1
            have f1 := HI.out.1.free t.toNat
            obtain ⟨b0, hb0⟩ : ∃ b0, wr.cell? ⟨w.heap.size + 1, t.toNat, none⟩ = some (.bool b0) := ⟨_, HI.out.1.cell t.toNat (by omega)⟩
            clear HI hJ
            go_wp2
            go_roundw
            case rel => exact ⟨j + 1, by omega, by go_num, HI2⟩
            case measure => simp [intOf]; omega
          · obtain rfl : j = m := by omega
            have j1 : ¬ (j : Int) < (j : Int) := by omega
            go_wp2
            go_roundw
            case rel => exact ⟨k + 1, by omega, by go_num, by rw [HR.out]; exact HI⟩
            case measure => simp [intOf]; omega
    · obtain rfl : k = n := by omega
      have i1 : ¬ (k : Int) < (k : Int) := by omega
      have HE : Hid (JnI w wr Ls.flatten) := by
        have := HJ.out
        rw [← HN.out, jnL_all] at this
        exact this
      clear HJ HS HB HM
      go_wp2_with (first | (refine wpList_load_own rfl 84 _ rfl (w.heap.size + 1) rfl 600 _ _ HE.out.1 Tryd.underlying84 rfl size44 ?_) | (refine wpList_store_own rfl 84 _ _ rfl w.heap.size rfl 600 _ _ rfl HE.out.2.1 (fun _ => rfl) size44 ?_; intro w2 O2 K2))
      (try simp only [Exit.inBlock, Exit.then])
      exact bodyPost_ret (results_own rfl _ _ w.heap.size 600 _ _ rfl O2 Tryd.underlying84 rfl size44) rfl ⟨rfl, HE.out.2.2.trans (K2.below (Nat.le_refl _) HE.out.2.2.size)⟩
end Go.Proofs.YtcgapochcahknaaDoor
