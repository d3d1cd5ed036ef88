/- The model's l12Unreached. -/
import Derived.Test.YtlfgboiejoiboaaDoorTkm
namespace Go.Proofs.YtlfgboiejoiboaaDoor
open Go.ChangeShapes Go.WideShapes Go.ChangeAt Go.RowKit
set_option linter.unusedVariables false
/-- What is not reached. -/
noncomputable def unB (O A B C : Nat → Int) (n : Nat) : Nat → Bool := fun i => !rchB O A B C n i
def Tgs (O A B C : Nat → Int) (n : Nat) : Prop := ∀ k, k < n → (O k = 8 → 0 ≤ A k ∧ A k < n) ∧ (O k = 9 → (0 ≤ B k ∧ B k < n) ∧ 0 ≤ C k ∧ C k < n)
set_option maxRecDepth 100000 in
set_option maxHeartbeats 4000000 in
theorem unreached33 (n a cap : Nat) (O D A B C X : Nat → Int) (w : World) (R : RowI w a n O D A B C X) (n0 : 1 ≤ n) (n1 : n ≤ 600) (hb : ∀ k, k < n → 0 ≤ A k ∧ 0 ≤ B k ∧ 0 ≤ C k) (hT : Tgs O A B C n) : Calls Tryd.prog 34 #[.slice (some ⟨a, 0, none⟩) n cap] w fun e w' => ∃ v, e = .returned v ∧ TkR w' v O D A B C X (unB O A B C n) n ∧ Below w.heap.size w w' := by
  have h27 := reached27 n a cap O D A B C X w R n0 n1 hb
  have HR : Hid (RowI w a n O D A B C X) := R
  have HT : Hid (Tgs O A B C n) := hT
  have HUn : Hid (∀ i, unB O A B C n i = !rchB O A B C n i) := fun i => rfl
  have H48 : Hid (∀ v : World, RowI v a n O D A B C X → Own v w.heap.size n (fun i => .bool (unB O A B C n i)) → Calls Tryd.prog 50 #[.slice (some ⟨a, 0, none⟩) n cap, .slice (some ⟨w.heap.size, 0, none⟩) n n] v fun e w' => ∃ u, e = .returned u ∧ TkR w' u O D A B C X (unB O A B C n) n ∧ Below v.heap.size v w') := fun v r o => take48 n a cap w.heap.size n O D A B C X (unB O A B C n) v r o.cell o.hi n1 hT
  clear R hb hT
  generalize unB O A B C n = U at HUn H48 ⊢
  generalize rchB O A B C n = F at h27 HUn
  go_enter Tryd.func34, Tryd.ntmps34
  go_wp2_with (go_at_call 27; refine h27.mono ?_; rintro e w1 ⟨rfl, O1, B1⟩)
  have S1 : Hid (Own w1 w.heap.size n (fun i => .bool (if i < 0 then U i else F i))) := O1.mono (Nat.le_refl _) (fun i hi => by rw [if_neg (by omega)])
  have HB1 : Hid (Below w.heap.size w w1) := B1
  clear h27 O1 B1
  go_loopw [9] (fun i wx => ∃ k : Nat, k ≤ n ∧ i = .int .i64 k ∧ Hid (Own wx w.heap.size n (fun i => .bool (if i < k then U i else F i))) ∧ Hid (Below w.heap.size w wx)) (fun i _ => n - (intOf i).toNat)
  case atStart => exact ⟨0, by omega, rfl, S1, HB1⟩
  case round =>
    obtain ⟨k, hk, rfl, HS, HB⟩ := hrel
    clear S1 HB1
    by_cases hkn : k < n
    · have i1 : (k : Int) < (n : Int) := by omega
      have ck := HS.out.cell k hkn
      have fk := HS.out.free k
      rw [if_neg (Nat.lt_irrefl k)] at ck
      have S2 : Hid (Own (wr.setCell ⟨w.heap.size, k, none⟩ (.bool (!F k))) w.heap.size n (fun i => .bool (if i < k + 1 then U i else F i))) := HS.out.set k _ hkn (fun i hi => by
        by_cases e : i = k
        · subst e; rw [if_pos rfl, if_pos (by omega), HUn.out]
        · rw [if_neg e]
          by_cases e2 : i < k
          · rw [if_pos e2, if_pos (by omega)]
          · rw [if_neg e2, if_neg (by omega)])
      have B2 : Hid (Below w.heap.size w (wr.setCell ⟨w.heap.size, k, none⟩ (.bool (!F k)))) := HB.out.setCell (p := ⟨w.heap.size, k, none⟩) (Nat.le_refl _) _
      clear HS HB
      go_wp2
      go_roundw
      case rel => exact ⟨k + 1, by omega, by go_num, S2, B2⟩
      case measure => simp [intOf]; omega
    · obtain rfl : k = n := by omega
      have i1 : ¬ (k : Int) < (k : Int) := by omega
      have S2 : Own wr w.heap.size k (fun i => .bool (U i)) := HS.out.mono (Nat.le_refl _) (fun i hi => by rw [if_pos hi])
      have h48 := H48.out wr (HR.out.next HB.out) S2
      clear HS S2
      go_wp2_with (go_at_call 50; refine h48.mono ?_; rintro e w2 ⟨u, rfl, T2, B2⟩)
      go_ret
      exact ⟨_, rfl, T2, HB.out.trans (B2.mono HB.out.size)⟩
end Go.Proofs.YtlfgboiejoiboaaDoor
