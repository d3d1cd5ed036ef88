/- PackStruct of both sides for every argument; rows of rows of words marked from any number on; conditions: lengths below 2^20. -/
import Derived.Test.YteakeaclpcgopaaPckI
import Derived.Test.YteakeaclpcgopaaVArg
namespace Go.Proofs.Yteakeaclpcgopaa
open Go.ChangeShapes Go.WideShapes Go.ChangeAt Go.RowKit
open Tk (Own Only)
set_option linter.unusedVariables false
set_option maxRecDepth 100000 in
set_option maxHeartbeats 4000000 in
theorem packS25 (n a b nv : Nat) (K T : Nat → ByteArray) (J : Nat → Int) (G L : Nat → Nat) (V : Nat → Nat → Int) (r : Int) (w : World) (X : Row3 w a n K T J) (hn : n ≤ 1048576) (hK : ∀ i, i < n → (K i).size ≤ 1048576) (Y : RowsG w b nv G L V) (hL : ∀ i, i < nv → L i ≤ 1048576) (hV : ∀ i j, 0 ≤ V i j ∧ V i j < 4294967296) : Calls Try.prog 25 #[.slice (some ⟨a, 0, none⟩) n n, .int .i64 r, .slice (some ⟨b, 0, none⟩) nv nv] w (SaysP w (if okP K T J r n nv L V = true then (laySz T J r n).toNat else 0) (piP T J r V n) (okP K T J r n nv L V)) := by
  cases hok : okL K T J r n
  case false =>
    have HL := layout16 n a K T J r w X hn hK
    rw [hok] at HL
    have HLL : Hid (Calls Try.prog 16 #[.slice (some ⟨a, 0, none⟩) n n, .int .i64 r] w (SaysL w [] 0 0 false)) := HL
    rw [okP_false (Or.inl hok)]
    clear HL X Y
    simp only [Bool.false_eq_true, if_false]
    go_enter Try.func25, Try.ntmps25
    go_wp2_with (go_at_call 16; refine HLL.out.mono ?_; rintro e w1 ⟨v, rfl, V1, gv, B1⟩; obtain ⟨sv, lv, cv, rfl⟩ := V1.is)
    exact bodyPost_ret (v := .tuple #[.slice none 0 0, .bool false]) (by simp [results, Try.results25, go_sem]) rfl (saysP_no w _ _ (B1.alloc B1.size _))
  by_cases hnv : nv = n
  · subst hnv
    refine pack25 nv a b K T J G L V r w X hn hK Y hL hV hok _ (fun h w' B => ?_) (fun h w' g c O hg B => ?_)
    · rw [okP_false (Or.inr (Or.inr h))]
      exact saysP_no w w' _ B
    · rw [okP_true hok rfl h]
      simp only [if_true]
      exact ⟨_, rfl, Or.inr ⟨g, c, rfl, O⟩, fun g' hg' => by simp [Value.ownBlock] at hg'; omega, B⟩
  · have HL := layout16 n a K T J r w X hn hK
    rw [hok] at HL
    have HLL : Hid (Calls Try.prog 16 #[.slice (some ⟨a, 0, none⟩) n n, .int .i64 r] w (SaysL w (spotsL K T J r n) (laySz T J r n) (layAl T J r n) true)) := HL
    rw [okP_false (Or.inr (Or.inl hnv))]
    have hne : ((nv : Int) == (n : Int)) = false := by simpa using (show ¬ (nv : Int) = (n : Int) by omega)
    have hne2 : ((nv : Int) != (n : Int)) = true := by simpa using (show ¬ (nv : Int) = (n : Int) by omega)
    generalize laySz T J r n = SZ at *
    generalize layAl T J r n = AL at *
    clear HL X Y hnv
    simp only [Bool.false_eq_true, if_false]
    go_enter Try.func25, Try.ntmps25
    go_wp2_with (go_at_call 16; refine HLL.out.mono ?_; rintro e w1 ⟨v, rfl, V1, gv, B1⟩; obtain ⟨sv, lv, cv, rfl⟩ := V1.is)
    exact bodyPost_ret (v := .tuple #[.slice none 0 0, .bool false]) (by simp [results, Try.results25, go_sem]) rfl (saysP_no w _ _ (B1.alloc B1.size _))
set_option maxRecDepth 100000 in
set_option maxHeartbeats 4000000 in
theorem packS27 (n a b nv : Nat) (K T : Nat → ByteArray) (J : Nat → Int) (G L : Nat → Nat) (V : Nat → Nat → Int) (r : Int) (w : World) (X : Row3 w a n K T J) (hn : n ≤ 1048576) (hK : ∀ i, i < n → (K i).size ≤ 1048576) (Y : RowsG w b nv G L V) (hL : ∀ i, i < nv → L i ≤ 1048576) (hV : ∀ i j, 0 ≤ V i j ∧ V i j < 4294967296) : Calls Try.prog 27 #[.slice (some ⟨a, 0, none⟩) n n, .int .i64 r, .slice (some ⟨b, 0, none⟩) nv nv] w (SaysP w (if okP K T J r n nv L V = true then (laySz T J r n).toNat else 0) (piP T J r V n) (okP K T J r n nv L V)) := by
  cases hok : okL K T J r n
  case false =>
    have HL := layout17 n a K T J r w X hn hK
    rw [hok] at HL
    have HLL : Hid (Calls Try.prog 17 #[.slice (some ⟨a, 0, none⟩) n n, .int .i64 r] w (SaysL w [] 0 0 false)) := HL
    rw [okP_false (Or.inl hok)]
    clear HL X Y
    simp only [Bool.false_eq_true, if_false]
    go_enter Try.func27, Try.ntmps27
    go_wp2_with (go_at_call 17; refine HLL.out.mono ?_; rintro e w1 ⟨v, rfl, V1, gv, B1⟩; obtain ⟨sv, lv, cv, rfl⟩ := V1.is)
    exact bodyPost_ret (v := .tuple #[.slice none 0 0, .bool false]) (by simp [results, Try.results27, go_sem]) rfl (saysP_no w _ _ (B1.alloc B1.size _))
  by_cases hnv : nv = n
  · subst hnv
    refine pack27 nv a b K T J G L V r w X hn hK Y hL hV hok _ (fun h w' B => ?_) (fun h w' g c O hg B => ?_)
    · rw [okP_false (Or.inr (Or.inr h))]
      exact saysP_no w w' _ B
    · rw [okP_true hok rfl h]
      simp only [if_true]
      exact ⟨_, rfl, Or.inr ⟨g, c, rfl, O⟩, fun g' hg' => by simp [Value.ownBlock] at hg'; omega, B⟩
  · have HL := layout17 n a K T J r w X hn hK
    rw [hok] at HL
    obtain ⟨_, _, _, hall⟩ := ok_good hok
    have HLL : Hid (Calls Try.prog 17 #[.slice (some ⟨a, 0, none⟩) n n, .int .i64 r] w (SaysL w (spotsL K T J r n) (laySz T J r n) (layAl T J r n) true)) := HL
    have H68 : Hid (∀ w', Below w.heap.size w w' → Calls Try.prog 68 #[.slice (some ⟨a, 0, none⟩) n n, .slice (some ⟨b, 0, none⟩) nv nv, .func (.func 69) #[] #[]] w' fun e w'' => ∃ B : Bool, e = .returned (.bool B) ∧ Is8 B (PV nv n T J L V) ∧ Below w'.heap.size w' w'') := fun w' bb => equal68 n a b nv K T J G L V w' (X.next bb) hn (Y.next bb) hL hV (fun i hi => by obtain ⟨_, gk, g0, g1, _⟩ := allG_at K T J n hall i hi; exact ⟨gk, g0, g1⟩)
    have HGv : Hid (∀ B, Is8 B (PV nv n T J L V) → B = false) := fun B h => by
      cases B
      · rfl
      · exact absurd (h.1 rfl).1 hnv
    rw [okP_false (Or.inr (Or.inl hnv))]
    generalize laySz T J r n = SZ at *
    generalize layAl T J r n = AL at *
    clear HL X Y hnv
    simp only [Bool.false_eq_true, if_false]
    go_enter Try.func27, Try.ntmps27
    go_wp2_with (first | (go_at_call 17; refine HLL.out.mono ?_; rintro e w1 ⟨v, rfl, V1, gv, B1⟩; (obtain ⟨sv, lv, cv, rfl⟩ := V1.is); (have b1a : Below w.heap.size w (w1.alloc (.cells #[.slice sv lv cv, .int .i64 SZ, .int .i64 AL] 34)) := B1.alloc B1.size _)) | (go_at_call 68; refine (H68.out _ b1a).mono ?_; rintro e w2 ⟨B', rfl, hB', B2⟩; (obtain rfl : B' = false := HGv.out B' hB'); (clear hB')))
    exact bodyPost_ret (v := .tuple #[.slice none 0 0, .bool false]) (by simp [results, Try.results27, go_sem]) rfl (saysP_no w _ _ (b1a.trans (B2.mono b1a.size)))
set_option maxHeartbeats 1000000 in
theorem mark72k {n a : Nat} {f : Nat → Value} {w : World} (O : Own w a n f) (ca k0 : Nat) (hn : n ≤ 1048576) (hk0 : k0 ≤ 10000000) :
    Calls Try.prog 72 #[.slice (some ⟨a, 0, none⟩) n ca, .int .i64 k0] w fun r w' => r = .returned (.int .i64 ((k0 + n : Nat) : Int)) ∧ Own w' a n (fun i => .int .u32 ((k0 + i : Nat) : Int)) ∧ Only a w w' := by
  go_enter Try.func72, Try.ntmps72
  go_wp2
  go_loopw [1, 5] (fun q i wr => ∃ k : Nat, k ≤ n ∧ i = .int .i64 k ∧ q = .int .i64 ((k0 + k : Nat) : Int) ∧ Own wr a n (fun j => if j < k then .int .u32 ((k0 + j : Nat) : Int) else f j) ∧ Only a w wr) (fun _ i _ => n - (intOf i).toNat)
  case atStart => exact ⟨0, by omega, rfl, rfl, O.mono (Nat.le_refl _) (fun j _ => by simp), Only.refl _ _⟩
  case round =>
    obtain ⟨k, hk, rfl, rfl, OK, BK⟩ := hrel
    by_cases hkn : k < n
    · have i1 : (k : Int) < (n : Int) := by omega
      have i0 : (0 : Int) ≤ (k : Int) := by omega
      obtain ⟨s, hs⟩ : ∃ s : Nat, k0 + k = s := ⟨_, rfl⟩
      rw [hs]
      have s1 : (s : Int) < 4294967296 := by omega
      have s0 : (0 : Int) ≤ (s : Int) := by omega
      have HS : Hid (k0 + k = s) := hs
      clear hs
      have f0 := OK.free k
      have g0 : wr.cell? ⟨a, k, none⟩ = some (f k) := by have := OK.cell k hkn; simpa using this
      go_wp2
      go_roundw
      case rel => exact ⟨k + 1, by omega, by go_num, by have := HS.out; rw [show k0 + (k + 1) = s + 1 by omega]; go_num, OK.set k _ hkn (fun j _ => by have hs := HS.out; by_cases e1 : j = k; (subst e1; rw [hs]; simp); rw [if_neg e1]; by_cases e2 : j < k; rw [if_pos e2, if_pos (by omega)]; rw [if_neg e2, if_neg (by omega)]), BK.setCell _ _⟩
      case measure => simp [intOf]; omega
    · have hkk : k = n := by omega
      subst hkk
      go_wp2
      go_ret
      exact ⟨rfl, OK.mono (Nat.le_refl _) (fun j hj => by simp [hj]), BK⟩
/-- Nothing is written but some rows' blocks. -/
structure OnlyG (G : Nat → Nat) (n : Nat) (w w' : World) : Prop where
  os : w'.os = w.os
  tape : w'.tape = w.tape
  output : w'.output = w.output
  size : w.heap.size ≤ w'.heap.size
  block : ∀ k, k < w.heap.size → (∀ i, i < n → G i ≠ k) → w'.heap[k]? = w.heap[k]?
theorem OnlyG.below {G : Nat → Nat} {n B : Nat} {w w' : World} (h : OnlyG G n w w') (hB : B ≤ w.heap.size) (hG : ∀ i, i < n → B ≤ G i) : Below B w w' := ⟨h.os, h.tape, h.output, h.size, fun k hk => h.block k (by omega) (fun i hi => by have := hG i hi; omega)⟩
theorem OnlyG.own {G : Nat → Nat} {n o m : Nat} {f : Nat → Value} {w w' : World} (h : OnlyG G n w w') (O : Own w o m f) (hG : ∀ i, i < n → G i ≠ o) : Own w' o m f := by
  have b := h.block o O.hi hG
  exact ⟨fun i hi => (World.cell?_of_block (w := w) (a := ⟨o, i, none⟩) b).trans (O.cell i hi), fun i => (World.frozen?_of_block (w := w) (a := ⟨o, i, none⟩) b).trans (O.free i), by have := O.hi; have := h.size; omega⟩
set_option maxRecDepth 100000 in
set_option maxHeartbeats 4000000 in
theorem mark30k {w : World} {n o : Nat} {G L : Nat → Nat} {V : Nat → Nat → Int} (X : RowsG w o n G L V) (k0 : Nat) (hn : n ≤ 1048576) (hL : ∀ i, i < n → L i ≤ 1048576) (hc : k0 + cumL L n ≤ 9000000) (ho : ∀ i, i < n → G i ≠ o) (hG : ∀ i j, i < j → j < n → G i ≠ G j) :
    Calls Try.prog 30 #[.slice (some ⟨o, 0, none⟩) n n, .int .i64 k0] w fun r w' => r = .returned (.int .i64 ((k0 + (cumL L n - 1) : Nat) : Int)) ∧ OnlyG G n w w' := by
  have HL : Hid (∀ i, i < n → L i ≤ 1048576 ∧ k0 + (cumL L i - 1) ≤ 10000000 ∧ k0 + (cumL L (i + 1) - 1) = k0 + (cumL L i - 1) + L i) := fun i hi => by
    have h1 := cumL_le L i n (by omega)
    have h2 := cumL_le L 0 i (by omega)
    refine ⟨hL i hi, by omega, ?_⟩
    simp only [cumL] at h2 ⊢
    omega
  have Ho : Hid (∀ i, i < n → G i ≠ o) := ho
  have HG : Hid (∀ i j, i < j → j < n → G i ≠ G j) := hG
  clear hL hc ho hG
  go_enter Try.func30, Try.ntmps30
  go_wp2
  go_loopw [1, 5] (fun l i wr => ∃ k : Nat, k ≤ n ∧ i = .int .i64 k ∧ l = .int .i64 ((k0 + (cumL L k - 1) : Nat) : Int) ∧ Own wr o n (fun i => .slice (some ⟨G i, 0, none⟩) (L i) (L i)) ∧ Hid (∀ i, k ≤ i → i < n → Own wr (G i) (L i) (fun j => .int .u32 (V i j))) ∧ OnlyG G n w wr) (fun _ i _ => n - (intOf i).toNat)
  case atStart => exact ⟨0, by omega, rfl, by simp [cumL], X.top, fun i _ hi => X.row i hi, rfl, rfl, rfl, Nat.le_refl _, fun _ _ _ => rfl⟩
  case round =>
    obtain ⟨k, hk, rfl, rfl, OX, HR, BX⟩ := hrel
    by_cases hkn : k < n
    · have i1 : (k : Int) < (n : Int) := by omega
      have i0 : (0 : Int) ≤ (k : Int) := by omega
      have rk := HR.out k (Nat.le_refl _) hkn
      have a0 := OX.cell k hkn
      obtain ⟨l1, l2, l3⟩ := HL.out k hkn
      have hm := mark72k rk (L k) (k0 + (cumL L k - 1)) l1 l2
      rw [← l3] at hm
      obtain ⟨N1, hN1⟩ : ∃ x, k0 + (cumL L (k + 1) - 1) = x := ⟨_, rfl⟩
      rw [hN1] at hm
      have HN1 : Hid (k0 + (cumL L (k + 1) - 1) = N1) := hN1
      obtain ⟨N0, hN0⟩ : ∃ x, k0 + (cumL L k - 1) = x := ⟨_, rfl⟩
      rw [hN0] at hm ⊢
      have HMk : Hid (Calls Try.prog 72 #[.slice (some ⟨G k, 0, none⟩) (L k) (L k), .int .i64 (N0 : Nat)] wr fun r w' => r = .returned (.int .i64 (N1 : Nat)) ∧ Own w' (G k) (L k) (fun i => .int .u32 ((N0 + i : Nat) : Int)) ∧ Only (G k) wr w') := hm
      have HC : Hid (∀ w', Only (G k) wr w' → Own w' o n (fun i => .slice (some ⟨G i, 0, none⟩) (L i) (L i)) ∧ (∀ i, k + 1 ≤ i → i < n → Own w' (G i) (L i) (fun j => .int .u32 (V i j))) ∧ OnlyG G n w w') := fun w' b => ⟨OX.but b (fun e => Ho.out k hkn e.symm), fun i h1 h2 => (HR.out i (by omega) h2).but b (fun e => HG.out k i (by omega) h2 e.symm), b.os.trans BX.os, b.tape.trans BX.tape, b.output.trans BX.output, Nat.le_trans BX.size b.size, fun q hq hne => (b.block q (Nat.lt_of_lt_of_le hq BX.size) (fun e => hne k hkn e.symm)).trans (BX.block q hq hne)⟩
      clear hm hN0 hN1 rk l3 OX HR BX
      go_wp2_with (go_at_call 72; refine HMk.out.mono ?_; rintro e w2 ⟨rfl, u2, o2⟩)
      obtain ⟨q1, q2, q3⟩ := HC.out w2 o2
      go_roundw
      case rel => exact ⟨k + 1, by omega, by go_num, by rw [HN1.out], q1, q2, q3⟩
      case measure => simp [intOf]; omega
    · have hkk : k = n := by omega
      subst hkk
      go_wp2
      go_ret
      exact ⟨rfl, BX⟩
/-- Rows of rows as the programs take them. -/
theorem rowsG_of {w : World} {o n : Nat} {S : Nat → Value} {L : Nat → Nat} {V : Nat → Nat → Int} (X : SS w (.slice (some ⟨o, 0, none⟩) n n) n S L V) (O : Own w o n S) (hS : ∀ i, i < n → ∃ g, S i = .slice (some ⟨g, 0, none⟩) (L i) (L i)) : RowsG w o n (fun i => (S i).ownBlock.getD 0) L V := by
  refine ⟨O.mono (Nat.le_refl _) (fun i hi => ?_), fun i hi => ?_⟩
  · obtain ⟨g, e⟩ := hS i hi
    rw [e]
    rfl
  · obtain ⟨g, e⟩ := hS i hi
    rcases X.row i hi with ⟨h0, h1⟩ | ⟨g', c, h1, O'⟩
    · rw [e] at h1; cases h1
    · rw [e] at h1
      injection h1 with h1 _ _
      injection h1 with h1
      injection h1 with h1
      subst h1
      rw [e]
      exact O'
end Go.Proofs.Yteakeaclpcgopaa
