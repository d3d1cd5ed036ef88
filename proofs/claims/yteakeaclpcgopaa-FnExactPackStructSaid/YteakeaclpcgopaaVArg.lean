/- Rows of rows of words as arguments: opened, counted, copied, marked; conditions: lengths below 2^20 where they are copied. -/
import Derived.Test.YteakeaclpcgopaaUnpS
import Derived.Deep.Matrix
namespace Go.Proofs.Yteakeaclpcgopaa
open Go.ChangeShapes Go.WideShapes Go.ChangeAt Go.RowKit
open Tk (Own Only Arg)
set_option linter.unusedVariables false
structure ArgSS (w : World) (a : Option Addr) (n : Nat) (A : Nat → Option Addr) (L C : Nat → Nat) (F : Nat → Nat → Int) : Prop where
  top : Arg w a n (fun i => .slice (A i) (L i) (C i))
  row : ∀ i, i < n → Arg w (A i) (L i) (fun j => .int .u32 (F i j))
theorem ArgSS.next {w w' : World} {a : Option Addr} {n : Nat} {A : Nat → Option Addr} {L C : Nat → Nat} {F : Nat → Nat → Int} (h : ArgSS w a n A L C F) (B : Below w.heap.size w w') : ArgSS w' a n A L C F :=
  ⟨h.top.next B, fun i hi => (h.row i hi).next B⟩
section
variable {H : Type} {enc : TypeId × Value → H} {P : Program} {W : World} {base : Nat}
theorem view_rows {t e q : TypeId} {v : Value} {d : DataW H} {p : List MemPlace} (ht : P.underlying t = some (.slice e)) (he : P.underlying e = some (.slice q)) (hq : P.underlying q = some (.int .u32)) (ce : P.cellsOf e = 1) (cq : P.cellsOf q = 1)
    (hok : Value.okWide P W .any base t v) (h : DataW.Trod enc P W 0 (fun _ => true) true t v d p) (hlt : ∀ x ∈ p, x.block < W.heap.size) :
    ∃ (a : Option Addr) (len cap : Nat) (A : Nat → Option Addr) (L C : Nat → Nat) (F : Nat → Nat → Int), v = .slice a len cap ∧ len ≤ 9223372036854775807 ∧ ArgSS W a len A L C F ∧ (∀ i, i < len → L i ≤ 9223372036854775807) ∧ ∀ i j, 0 ≤ F i j ∧ F i j < 4294967296 := by
  obtain ⟨a0, len, cap, rfl⟩ := okWide_slice ht hok
  obtain ⟨fuel, hf⟩ := h
  rcases Go.Deep.open_int_rows ht he hq ce cq hf with ⟨hcs, hx⟩ | ⟨a, len', cap', A, L, C, Z, hcs, _, hl, hm, hx, hr⟩
  · simp [Value.cells] at hcs
    obtain ⟨rfl, rfl, rfl⟩ := hcs
    exact ⟨_, 0, 0, fun _ => none, fun _ => 0, fun _ => 0, fun _ _ => 0, rfl, by omega, ⟨Or.inl rfl, fun i hi => by omega⟩, fun i hi => by omega, fun _ _ => ⟨Int.le_refl 0, show (0 : Int) < 4294967296 by decide⟩⟩
  · simp [Value.cells] at hcs
    obtain ⟨rfl, rfl, rfl⟩ := hcs
    simp only [Prod.mk.injEq] at hx
    obtain ⟨rfl, rfl⟩ := hx
    refine ⟨_, len, cap, A, L, C, fun i j => if i < len then (Z i).getD j 0 else 0, rfl, by unfold maxLen at hm; omega, ⟨?_, ?_⟩, fun i hi => ?_, fun i j => ?_⟩
    · by_cases hl0 : len = 0
      · exact Or.inl hl0
      · obtain ⟨b, off, spot⟩ := a
        have hspot : spot = none := by simpa [Addr.add] using World.cell?_spot (hr 0 (by omega)).1
        subst hspot
        have hbW : b < W.heap.size := hlt (.cell b off) (List.mem_append.2 (Or.inl (MemPlace.mem_row.2 ⟨0, by omega, by simp⟩)))
        exact Or.inr ⟨b, off, rfl, hbW, fun j hj => by rw [← add_plain]; exact (hr j (by omega)).1⟩
    · intro i hi
      obtain ⟨_, hlc, hcm, hzl, hwf, hnone, hsome⟩ := hr i (by omega)
      by_cases hl0 : L i = 0
      · exact Or.inl hl0
      · cases hA : A i with
        | none => have := hnone hA; omega
        | some a' =>
          obtain ⟨_, hcell⟩ := hsome a' hA
          obtain ⟨b, off, spot⟩ := a'
          have hspot : spot = none := by simpa [Addr.add] using World.cell?_spot (hcell 0 (by omega))
          subst hspot
          have hbW : b < W.heap.size := hlt (.cell b off) (List.mem_append.2 (Or.inr (List.mem_flatMap.2 ⟨i, List.mem_range.2 (by omega), by rw [hA]; exact MemPlace.mem_row.2 ⟨0, by omega, by simp⟩⟩)))
          exact Or.inr ⟨b, off, rfl, hbW, fun j hj => by rw [← add_plain]; simp only [if_pos hi]; exact hcell j (by omega)⟩
    · have := (hr i (by omega)).2.1
      have := (hr i (by omega)).2.2.1
      unfold maxLen at this
      omega
    · by_cases hi : i < len
      · simp only [if_pos hi]
        by_cases hj : j < (Z i).length
        · have e : (Z i).getD j 0 = (Z i)[j] := by simp [List.getD, hj]
          have h := (hr i (by omega)).2.2.2.2.1 _ (List.getElem_mem hj)
          rw [e]
          simp [Lit.wf] at h
          have e1 : IntKind.u32.min = 0 := by decide
          have e2 : IntKind.u32.max = 4294967295 := by decide
          omega
        · have e : (Z i).getD j 0 = 0 := by simp [List.getD, List.getElem?_eq_none (Nat.le_of_not_lt hj)]
          rw [e]
          exact ⟨by omega, by omega⟩
      · simp only [if_neg hi]
        exact ⟨by omega, by omega⟩
end
theorem sz66 (a : Option Addr) (l c : Nat) (z : Int) (w : World) (hl : l ≤ 9223372036854775807) (z0 : 0 ≤ z) (z1 : z ≤ 1048576) : Calls Try.prog 66 #[.slice a l c, .int .i64 z] w fun r w' => r = .returned (.int .i64 (if z < (l : Int) then -1 else z - l)) ∧ w' = w := by
  have e0 : IntKind.i64.wrap (z - (l : Int)) = z - (l : Int) := (IntKind.wrap_i64 _).trans (by omega)
  by_cases h : z < (l : Int)
  · have h1 : z - (l : Int) < 0 := by omega
    rw [if_pos h]
    go_enter Try.func66, Try.ntmps66
    go_wp2
    go_ret
    exact ⟨rfl, rfl⟩
  · have h1 : ¬ z - (l : Int) < 0 := by omega
    rw [if_neg h]
    go_enter Try.func66, Try.ntmps66
    go_wp2
    go_ret
    exact ⟨rfl, rfl⟩
set_option maxRecDepth 100000 in
set_option maxHeartbeats 4000000 in
theorem sz24 {w : World} {a : Option Addr} {n : Nat} {A : Nat → Option Addr} {L C : Nat → Nat} {F : Nat → Nat → Int} (X : ArgSS w a n A L C F) (cap : Nat) (hn : n ≤ 9223372036854775807) (hL : ∀ i, i < n → L i ≤ 9223372036854775807) (z : Int) (z0 : 0 ≤ z) (z1 : z ≤ 1048576) :
    Calls Try.prog 24 #[.slice a n cap, .int .i64 z] w fun r w' => (∃ y : Int, r = .returned (.int .i64 y) ∧ (y < 0 ∨ 0 ≤ y ∧ n ≤ 1048576 ∧ (∀ i, i < n → L i ≤ 1048576) ∧ cumL L n ≤ 1048577)) ∧ Below w.heap.size w w' := by
  have e0 : IntKind.i64.wrap (z - (n : Int)) = z - (n : Int) := (IntKind.wrap_i64 _).trans (by omega)
  by_cases h : z < (n : Int)
  · have h1 : z - (n : Int) < 0 := by omega
    go_enter Try.func24, Try.ntmps24
    go_wp2
    go_ret
    exact ⟨⟨_, rfl, Or.inl (by omega)⟩, Below.refl _ _⟩
  have h1 : ¬ z - (n : Int) < 0 := by omega
  go_enter Try.func24, Try.ntmps24
  go_wp2
  go_loopw [1, 5] (fun y i wr => ∃ (k : Nat) (u : Int), k ≤ n ∧ i = .int .i64 k ∧ y = .int .i64 u ∧ 0 ≤ u ∧ u ≤ 1048576 ∧ (cumL L k : Int) + u + n ≤ z + 1 ∧ Below w.heap.size w wr) (fun _ i _ => n - (intOf i).toNat)
  case atStart => exact ⟨0, _, by omega, rfl, rfl, by omega, by omega, by simp [cumL]; omega, Below.refl _ _⟩
  case round =>
    obtain ⟨k, u, hk, rfl, rfl, u0, u1, hu, B⟩ := hrel
    by_cases hkn : k < n
    · have i1 : (k : Int) < (n : Int) := by omega
      have i0 : (0 : Int) ≤ (k : Int) := by omega
      rcases (X.next B).top with e | ⟨b, off, rfl, hb, hc⟩
      · omega
      have d0 := hc k hkn
      have hlk := hL k hkn
      have H66 : Hid (∀ w', Calls Try.prog 66 #[.slice (A k) (L k) (C k), .int .i64 u] w' fun r w'' => r = .returned (.int .i64 (if u < (L k : Int) then -1 else u - L k)) ∧ w'' = w') := fun w' => sz66 (A k) (L k) (C k) u w' hlk u0 u1
      have HcL : Hid (cumL L (k + 1) = cumL L k + L k) := rfl
      clear hc
      by_cases hh : u < (L k : Int)
      · rw [if_pos hh] at H66
        go_wp2_with (go_at_call 66; refine (H66.out _).mono ?_; rintro e w' ⟨rfl, hw'⟩; subst w')
        go_ret
        exact ⟨⟨_, rfl, Or.inl (by omega)⟩, B⟩
      · rw [if_neg hh] at H66
        obtain ⟨y, hy⟩ : ∃ y : Int, u - (L k : Int) = y := ⟨_, rfl⟩
        rw [hy] at H66
        have y0 : ¬ y < 0 := by omega
        go_wp2_with (go_at_call 66; refine (H66.out _).mono ?_; rintro e w' ⟨rfl, hw'⟩; subst w')
        go_roundw
        case rel => exact ⟨k + 1, y, by omega, by go_num, rfl, by omega, by omega, by have := HcL.out; omega, B⟩
        case measure => simp [intOf]; omega
    · have hkk : k = n := by omega
      subst hkk
      have HH : Hid (k ≤ 1048576 ∧ (∀ i, i < k → L i ≤ 1048576) ∧ cumL L k ≤ 1048577) := ⟨by omega, fun i hi => by have h1 := cumL_le L (i + 1) k (by omega); rw [cumL] at h1; omega, by omega⟩
      clear hu
      go_wp2
      go_ret
      exact ⟨⟨_, rfl, Or.inr ⟨u0, HH.out⟩⟩, B⟩
set_option maxRecDepth 100000 in
set_option maxHeartbeats 4000000 in
theorem to26 {w : World} {a : Option Addr} {n : Nat} {A : Nat → Option Addr} {L C : Nat → Nat} {F : Nat → Nat → Int} (X : ArgSS w a n A L C F) (cap : Nat) (hn : n ≤ 1048576) (hL : ∀ i, i < n → L i ≤ 1048576) :
    Calls Try.prog 26 #[.slice a n cap] w fun r w' => ∃ S, r = .returned (.slice (some ⟨w.heap.size, 0, none⟩) n n) ∧ SS w' (.slice (some ⟨w.heap.size, 0, none⟩) n n) n S L F ∧ Own w' w.heap.size n S ∧ Sep (.slice (some ⟨w.heap.size, 0, none⟩) n n) n S ∧ (∀ i, i < n → ∀ g, (S i).ownBlock = some g → w.heap.size < g) ∧ (∀ i, i < n → ∃ g, S i = .slice (some ⟨g, 0, none⟩) (L i) (L i)) ∧ Below w.heap.size w w' := by
  obtain ⟨i4', hi4, hz40, hz41, hz42⟩ := info_parts info93
  go_enter Try.func26, Try.ntmps26
  go_wp2_with (at_make; refine wpList_make_full _ rfl _ _ 44 rfl w.heap.size 93 i4' (.slice none 0 0) 1 Try.underlying44 hi4 hz40 hz41 _ _ _ _ n rfl rfl (by first | rfl | omega) (by first | rfl | omega) (by rw [hz42]; omega) (by unfold maxLen; omega) (by simp) ?_; intro w2 hown2 hgrow2)
  have O2 : Own w2 w.heap.size n (fun _ => .slice none 0 0) := Tk.own_made (w := w) (z := .slice none 0 0) hown2
  have B2 : Below w.heap.size w w2 := (Below.refl _ _).grown hgrow2 (by simp) (by simp)
  have X2 := X.next B2
  obtain ⟨ob, hob⟩ : ∃ x, w.heap.size = x := ⟨_, rfl⟩
  rw [hob] at O2 B2 ⊢
  have lo : ob < w2.heap.size := O2.hi
  have HX2 : Hid (ArgSS w2 a n A L C F) := X2
  have HaO : Hid (∀ b off, a = some ⟨b, off, none⟩ → n ≠ 0 → b ≠ ob) := fun b off e h0 => by
    rcases X.top with h | ⟨b', off', e', hb', _⟩
    · exact absurd h h0
    · rw [e] at e'
      injection e' with e'
      injection e' with e1
      omega
  have HrO : Hid (∀ i, i < n → Arg w2 (A i) (L i) (fun j => .int .u32 (F i j)) ∧ ∀ w', Only ob w2 w' → Arg w' (A i) (L i) (fun j => .int .u32 (F i j))) := fun i hi => ⟨X2.row i hi, fun w' o => by
    rcases X.row i hi with h | ⟨b, off, e, hb, hc⟩
    · exact Or.inl h
    · refine Or.inr ⟨b, off, e, by have := o.size; omega, fun j hj => ?_⟩
      have hbb : b < w2.heap.size := by omega
      rw [World.cell?_of_block (w := w2) (a := ⟨b, off + j, none⟩) (o.block b hbb (by omega))]
      rw [World.cell?_of_block (w := w) (a := ⟨b, off + j, none⟩) (B2.block b (by omega))]
      exact hc j hj⟩
  clear hown2 hgrow2 X X2
  go_loopw [4] (fun i wr => ∃ (k : Nat) (S : Nat → Value), k ≤ n ∧ i = .int .i64 k ∧ Own wr ob n (fun i => if i < k then S i else .slice none 0 0) ∧ Hid (∀ i, i < k → ∃ g, S i = .slice (some ⟨g, 0, none⟩) (L i) (L i) ∧ ob < g ∧ g < wr.heap.size ∧ Own wr g (L i) (fun j => .int .u32 (F i j))) ∧ Hid (∀ i j, i < j → j < k → ∀ x y, (S i).ownBlock = some x → (S j).ownBlock = some y → x < y) ∧ Only ob w2 wr) (fun i _ => n - (intOf i).toNat)
  case atStart => exact ⟨0, fun _ => .slice none 0 0, by omega, rfl, O2.mono (Nat.le_refl _) (fun i _ => by simp), fun i hi => by omega, fun i j _ hj => by omega, Only.refl _ _⟩
  case round =>
    obtain ⟨k, S, hk, rfl, OU, HR, HI, B⟩ := hrel
    by_cases hkn : k < n
    · have i1 : (k : Int) < (n : Int) := by omega
      have i0 : (0 : Int) ≤ (k : Int) := by omega
      rcases HX2.out.top with e | ⟨b, off, rfl, hb, hc⟩
      · omega
      have hbo : b ≠ ob := HaO.out b off rfl (by omega)
      have d0 : wr.cell? ⟨b, off + k, none⟩ = some (.slice (A k) (L k) (C k)) := by
        rw [World.cell?_of_block (w := w2) (a := ⟨b, off + k, none⟩) (B.block b hb hbo)]
        exact hc k hkn
      have lwr : w2.heap.size ≤ wr.heap.size := B.size
      have H67 : Hid (Calls Try.prog 67 #[.slice (A k) (L k) (C k)] wr fun r w' => r = .returned (.slice (some ⟨wr.heap.size, 0, none⟩) (L k) (L k)) ∧ Own w' wr.heap.size (L k) (fun j => .int .u32 (F k j)) ∧ Below wr.heap.size wr w') := Tk.argU ((HrO.out k hkn).2 wr B) (C k) (hL k hkn)
      have HOU : Hid (Own wr ob n (fun i => if i < k then S i else .slice none 0 0)) := OU
      have HB : Hid (Only ob w2 wr) := B
      clear hc OU B
      go_wp2_with (go_at_call 67; refine H67.out.mono ?_; rintro e w3 ⟨rfl, O3, B3⟩; (have a5 := (HOU.out.next B3).cell k hkn); (simp only [Nat.lt_irrefl, if_false] at a5); (have b5 := (HOU.out.next B3).free k))
      have Q0 : Hid (Own (w3.setCell ⟨ob, k, none⟩ (.slice (some ⟨wr.heap.size, 0, none⟩) (L k) (L k))) ob n (fun i => if i < k + 1 then (if i = k then .slice (some ⟨wr.heap.size, 0, none⟩) (L k) (L k) else S i) else .slice none 0 0)) := (HOU.out.next B3).set k _ hkn (fun i _ => by
        by_cases e : i = k
        · subst e; simp
        · by_cases e2 : i < k
          · rw [if_pos (by omega), if_neg e, if_neg e, if_pos e2]
          · rw [if_neg (by omega), if_neg e, if_neg e2])
      have OS : Only ob w3 (w3.setCell ⟨ob, k, none⟩ (.slice (some ⟨wr.heap.size, 0, none⟩) (L k) (L k))) := (Only.refl _ _).setCell k _
      have lw3 : wr.heap.size < w3.heap.size := O3.hi
      have Q2 : Hid (∀ i, i < k + 1 → ∃ g, (if i = k then .slice (some ⟨wr.heap.size, 0, none⟩) (L k) (L k) else S i) = .slice (some ⟨g, 0, none⟩) (L i) (L i) ∧ ob < g ∧ g < (w3.setCell ⟨ob, k, none⟩ (.slice (some ⟨wr.heap.size, 0, none⟩) (L k) (L k))).heap.size ∧ Own (w3.setCell ⟨ob, k, none⟩ (.slice (some ⟨wr.heap.size, 0, none⟩) (L k) (L k))) g (L i) (fun j => .int .u32 (F i j))) := fun i hi => by
        by_cases e : i = k
        · subst e
          exact ⟨wr.heap.size, by rw [if_pos rfl], by omega, by simpa using lw3, O3.but OS (by omega)⟩
        · obtain ⟨g, h1, h2, h3, h4⟩ := HR.out i (by omega)
          exact ⟨g, by rw [if_neg e]; exact h1, h2, by simp; omega, (h4.next B3).but OS (by omega)⟩
      have Q3 : Hid (∀ i j', i < j' → j' < k + 1 → ∀ x y, (if i = k then .slice (some ⟨wr.heap.size, 0, none⟩) (L k) (L k) else S i).ownBlock = some x → (if j' = k then .slice (some ⟨wr.heap.size, 0, none⟩) (L k) (L k) else S j').ownBlock = some y → x < y) := fun i j' hij hj' x y hx hy => by
        rw [if_neg (by omega)] at hx
        by_cases e : j' = k
        · rw [if_pos e] at hy
          obtain ⟨g, h1, h2, h3, h4⟩ := HR.out i (by omega)
          rw [h1] at hx
          simp [Value.ownBlock] at hx hy
          omega
        · rw [if_neg e] at hy
          exact HI.out i j' hij (by omega) x y hx hy
      have Q4 : Hid (Only ob w2 (w3.setCell ⟨ob, k, none⟩ (.slice (some ⟨wr.heap.size, 0, none⟩) (L k) (L k)))) := (HB.out.trans (Only.ofBelow B3)).setCell k _
      clear O3 B3 a5 b5 OS HOU HB HR HI
      go_wp2
      go_roundw
      case rel => exact ⟨k + 1, fun i => if i = k then .slice (some ⟨wr.heap.size, 0, none⟩) (L k) (L k) else S i, by omega, by go_num, Q0.out, Q2.out, Q3.out, Q4.out⟩
      case measure => simp [intOf]; omega
    · have hkk : k = n := by omega
      subst hkk
      have HS : Hid (∃ S, SS wr (.slice (some ⟨ob, 0, none⟩) k k) k S L F ∧ Own wr ob k S ∧ Sep (.slice (some ⟨ob, 0, none⟩) k k) k S ∧ (∀ i, i < k → ∀ g, (S i).ownBlock = some g → ob < g) ∧ (∀ i, i < k → ∃ g, S i = .slice (some ⟨g, 0, none⟩) (L i) (L i)) ∧ Below ob w wr) := by
        have O1 : Own wr ob k S := OU.mono (Nat.le_refl _) (fun i hi => by rw [if_pos hi])
        refine ⟨S, ⟨Or.inr ⟨ob, k, rfl, O1⟩, fun i hi => ?_⟩, O1, ⟨fun i j hi hj hij x hx hy => ?_, fun i hi x hx hy => ?_⟩, fun i hi x hx => ?_, fun i hi => ?_, B2.trans (B.below (Nat.le_refl _) (by omega))⟩
        · obtain ⟨g, h1, _, _, h4⟩ := HR.out i hi
          exact Or.inr ⟨g, _, h1, h4⟩
        · rcases Nat.lt_or_gt_of_ne hij with h | h
          · have := HI.out i j h hj x x hx hy; omega
          · have := HI.out j i h hi x x hy hx; omega
        · obtain ⟨g, h1, h2, _, h4⟩ := HR.out i hi
          rw [h1] at hx
          simp [Value.ownBlock] at hx hy
          omega
        · obtain ⟨g, h1, h2, _, h4⟩ := HR.out i hi
          rw [h1] at hx
          simp [Value.ownBlock] at hx
          omega
        · obtain ⟨g, h1, _, _, h4⟩ := HR.out i hi
          exact ⟨g, h1⟩
      clear OU HR HI
      go_wp2
      go_ret
      obtain ⟨S', h'⟩ := HS.out
      subst hob
      exact ⟨S', rfl, h'⟩
end Go.Proofs.Yteakeaclpcgopaa
