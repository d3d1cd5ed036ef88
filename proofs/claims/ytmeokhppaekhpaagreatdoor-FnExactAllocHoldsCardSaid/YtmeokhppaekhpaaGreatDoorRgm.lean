/- The registers of a code: what they are; the model's RegsOf. -/
import Derived.Test.YtmeokhppaekhpaaGreatDoorRdt
import Derived.Test.YtmeokhppaekhpaaGreatDoorRco
import Derived.Test.YtmeokhppaekhpaaGreatDoorWrm
namespace Go.Proofs.YtmeokhppaekhpaaGreatDoor
open Go.ChangeShapes Go.WideShapes Go.ChangeAt Go.RowKit
set_option linter.unusedVariables false
/-- The number of registers, once r is seen. -/
def up (n r : Int) : Int := if n ≤ r then r + 1 else n
def ups (n : Int) (l : List Int) : Int := l.foldl up n
theorem up_ge (n r : Int) : n ≤ up n r ∧ r + 1 ≤ up n r := by unfold up; split <;> omega
theorem up_is (n r : Int) : up n r = n ∨ up n r = r + 1 := by unfold up; split <;> simp
theorem ups_ge : ∀ (l : List Int) (n : Int), n ≤ ups n l ∧ ∀ y, y ∈ l → y + 1 ≤ ups n l
  | [], n => ⟨Int.le_refl _, fun y h => by cases h⟩
  | r :: l, n => by
    have h := ups_ge l (up n r)
    have u := up_ge n r
    show n ≤ ups (up n r) l ∧ ∀ y, y ∈ r :: l → y + 1 ≤ ups (up n r) l
    refine ⟨by omega, fun y hy => ?_⟩
    rcases List.mem_cons.1 hy with rfl | hy
    · omega
    · exact h.2 y hy
theorem ups_is : ∀ (l : List Int) (n : Int), ups n l = n ∨ ∃ y, y ∈ l ∧ ups n l = y + 1
  | [], n => Or.inl rfl
  | r :: l, n => by
    show ups (up n r) l = n ∨ ∃ y, y ∈ r :: l ∧ ups (up n r) l = y + 1
    rcases ups_is l (up n r) with h | ⟨y, hy, h⟩
    · rcases up_is n r with k | k
      · exact Or.inl (h.trans k)
      · exact Or.inr ⟨r, by simp, h.trans k⟩
    · exact Or.inr ⟨y, by simp [hy], h⟩
theorem ups_le_of {l l' : List Int} {n : Int} (h : ∀ y, y ∈ l → y ∈ l') : ups n l ≤ ups n l' := by
  have g := ups_ge l' n
  rcases ups_is l n with k | ⟨y, hy, k⟩
  · omega
  · have := g.2 y (h y hy)
    omega
theorem ups_mem {l l' : List Int} {n : Int} (h : ∀ y, y ∈ l ↔ y ∈ l') : ups n l = ups n l' := Int.le_antisymm (ups_le_of fun y => (h y).1) (ups_le_of fun y => (h y).2)
theorem ups_bnd {l : List Int} {n N : Int} (h : n ≤ N) (k : ∀ y, y ∈ l → y + 1 ≤ N) : ups n l ≤ N := by
  rcases ups_is l n with e | ⟨y, hy, e⟩
  · omega
  · have := k y hy
    omega
theorem ups_take (n : Int) (l : List Int) (j : Nat) (hj : j < l.length) : ups n (l.take (j + 1)) = up (ups n (l.take j)) (l.getD j 0) := by
  unfold ups
  rw [List.take_add_one, List.foldl_append]
  simp [List.getD, hj]
theorem getD_mem (l : List Int) (j : Nat) (h : j < l.length) : l.getD j 0 ∈ l := by
  simp [List.getD, h]
def lds (o d n : Int) : Int := if nmd o 0 then up n d else n
def rgn (O D A B C X : Nat → Int) : Nat → Int
  | 0 => 0
  | k + 1 => ups (lds (O k) (D k) (rgn O D A B C X k)) (opsL (O k) (A k) (B k) (C k) (X k))
theorem opsL_bnd {o d a b c x : Int} (h : Bds o d a b c x) : ∀ y, y ∈ opsL o a b c x → 0 ≤ y ∧ y < 4294967296 := by
  have h1 := h.2 1 (by omega)
  have h2 := h.2 2 (by omega)
  have h3 := h.2 3 (by omega)
  simp only [val] at h1 h2 h3
  intro y hy
  have hy3 : y = a ∨ y = b ∨ y = c := by
    unfold opsL at hy
    repeat' split at hy
    · simp at hy; simp [hy]
    · simp at hy; rcases hy with h | h <;> simp [h]
    · have := List.mem_of_mem_take hy
      simpa using this
    · cases hy
  rcases hy3 with rfl | rfl | rfl <;> assumption
theorem lds_bnd {o d a b c x n : Int} (h : Bds o d a b c x) (h0 : 0 ≤ n) (h1 : n ≤ 4294967296) : 0 ≤ lds o d n ∧ lds o d n ≤ 4294967296 := by
  have hd := h.2 0 (by omega)
  simp only [val] at hd
  unfold lds up
  repeat' split
  all_goals omega
theorem rgn_bnd (O D A B C X : Nat → Int) (n : Nat) (h : ∀ k, k < n → Bds (O k) (D k) (A k) (B k) (C k) (X k)) : ∀ k, k ≤ n → 0 ≤ rgn O D A B C X k ∧ rgn O D A B C X k ≤ 4294967296
  | 0, _ => by unfold rgn; omega
  | k + 1, hk => by
    have ih := rgn_bnd O D A B C X n h k (by omega)
    have l := lds_bnd (h k (by omega)) ih.1 ih.2
    have e : rgn O D A B C X (k + 1) = ups (lds (O k) (D k) (rgn O D A B C X k)) (opsL (O k) (A k) (B k) (C k) (X k)) := rfl
    have g := ups_ge (opsL (O k) (A k) (B k) (C k) (X k)) (lds (O k) (D k) (rgn O D A B C X k))
    have b := ups_bnd (l := opsL (O k) (A k) (B k) (C k) (X k)) l.2 (fun y hy => by have := opsL_bnd (h k (by omega)) y hy; omega)
    rw [e]
    omega
/-- A slice of whole numbers as it is read. -/
def Lst (w : World) (u : Value) (M : List Int) : Prop := ∃ ad cp, u = .slice ad M.length cp ∧ ∀ i, i < M.length → ∃ g, ad = some ⟨g, 0, none⟩ ∧ w.cell? ⟨g, i, none⟩ = some (.int .i64 (M.getD i 0))
theorem Ri.lst {B : Nat} {w : World} {u : Value} {M : List Int} (h : Ri B w u M) : Lst w u M := by
  rcases ri_cases h with ⟨rfl, rfl⟩ | ⟨g, c, rfl, _, _, k⟩
  · exact ⟨none, 0, rfl, fun i hi => absurd hi (by simp)⟩
  · exact ⟨_, c, rfl, fun i hi => ⟨g, rfl, k i hi⟩⟩
theorem IOwn.lst {B : Nat} {w : World} {u : Value} {M : List Int} (h : IOwn B w u M) : Lst w u M := by
  rcases h with ⟨rfl, rfl⟩ | ⟨g, c, rfl, _, _, k⟩
  · exact ⟨none, 0, rfl, fun i hi => absurd hi (by simp)⟩
  · exact ⟨_, c, rfl, fun i hi => ⟨g, rfl, k.cell i hi⟩⟩
theorem good_call {O D A B C X : Nat → Int} {n : Nat} (h : goodC O D A B C X n = true) : ∀ k, k < n → O k = 4 → 1 ≤ ar (calW (X k)) := by
  unfold goodC at h
  simp only [Bool.and_eq_true, decide_eq_true_eq] at h
  obtain ⟨⟨h1, h2⟩, h3, _⟩ := h
  intro k hk h4
  have hg := allB_at _ n k h3 hk
  have hs : swOk (O k) (A k) (B k) (C k) (X k) = true := by
    unfold gdI goodI at hg
    simp only [Bool.and_eq_true] at hg
    exact hg.2
  rw [h4] at hs
  unfold swOk callOk at hs
  simp only [Bool.and_eq_true, decide_eq_true_eq, show ¬ (4 : Int) = 3 by decide, if_false, if_true] at hs
  exact hs.1.1.1
set_option maxRecDepth 100000 in
set_option maxHeartbeats 4000000 in
theorem regs36 (n a cap : Nat) (O D A B C X : Nat → Int) (w : World) (R : RowI w a n O D A B C X) (hX : Wds X n) (hn : n ≤ 600) (hg : goodC O D A B C X n = true) (hb : ∀ k, k < n → Bds (O k) (D k) (A k) (B k) (C k) (X k)) : Calls Tryz.prog 48 #[.slice (some ⟨a, 0, none⟩) n cap] w fun e w' => e = .returned (.int .i64 (rgn O D A B C X n)) ∧ Below w.heap.size w w' := by
  have HBD : Hid (∀ k, k < n → Bds (O k) (D k) (A k) (B k) (C k) (X k)) := hb
  have HRB : Hid (∀ k, k ≤ n → 0 ≤ rgn O D A B C X k ∧ rgn O D A B C X k ≤ 4294967296) := rgn_bnd O D A B C X n hb
  have H63 : Hid (∀ k, k < n → ∀ v, Calls Tryz.prog 40 #[.agg #[.int .i64 (O k), .int .i64 (D k), .int .i64 (A k), .int .i64 (B k), .int .i64 (C k), .int .u32 (X k)]] v fun e w' => e = .returned (.int .i64 (if nmd (O k) 0 then D k else -1)) ∧ Below v.heap.size v w') := fun k hk v => writes63 _ _ _ _ _ _ v (hb k hk).1
  have H39 : Hid (∀ k, k < n → ∀ v, Calls Tryz.prog 73 #[.agg #[.int .i64 (O k), .int .i64 (D k), .int .i64 (A k), .int .i64 (B k), .int .i64 (C k), .int .u32 (X k)]] v fun e w' => ∃ u, e = .returned u ∧ Ri v.heap.size w' u (srt (opsL (O k) (A k) (B k) (C k) (X k))) ∧ Below v.heap.size v w') := fun k hk v => reads39 _ _ _ _ _ _ v (hX k hk).1 (hX k hk).2 (hb k hk).1 (good_call hg k hk)
  have HR : Hid (RowI w a n O D A B C X) := R
  clear hX hg hb R
  go_enter Tryz.func48, Tryz.ntmps48
  go_wp2
  go_loopw [3, 11] (fun nn i wx => ∃ k : Nat, k ≤ n ∧ i = .int .i64 k ∧ nn = .int .i64 (rgn O D A B C X k) ∧ Below w.heap.size w wx) (fun _ i _ => n - (intOf i).toNat)
  case atStart => exact ⟨0, by omega, rfl, rfl, Below.refl _ _⟩
  case round =>
    obtain ⟨k, hk, rfl, rfl, BQ⟩ := hrel
    have RK := HR.out.next BQ
    by_cases hkn : k < n
    · have i1 : (k : Int) < (n : Int) := by omega
      have c0 := RK.c0 k hkn
      have c1 := RK.c1 k hkn
      have c2 := RK.c2 k hkn
      have c3 := RK.c3 k hkn
      have c4 := RK.c4 k hkn
      have c5 := RK.c5 k hkn
      have h63 := H63.out k hkn
      have h39 := H39.out k hkn
      have rb := HRB.out k hk
      have db := (HBD.out k hkn).2 0 (by omega)
      simp only [val] at db
      have HRG0 : Hid (rgn O D A B C X (k + 1) = ups (lds (O k) (D k) (rgn O D A B C X k)) (opsL (O k) (A k) (B k) (C k) (X k))) := rfl
      obtain ⟨r, hr⟩ : ∃ r, rgn O D A B C X k = r := ⟨_, rfl⟩
      have HRG : Hid (rgn O D A B C X (k + 1) = ups (lds (O k) (D k) r) (opsL (O k) (A k) (B k) (C k) (X k))) := by rw [← hr]; exact HRG0
      rw [hr] at rb ⊢
      clear HRG0 hr
      obtain ⟨M, hM⟩ : ∃ M, srt (opsL (O k) (A k) (B k) (C k) (X k)) = M := ⟨_, rfl⟩
      have HMM : Hid (srt (opsL (O k) (A k) (B k) (C k) (X k)) = M) := hM
      have HML : Hid (M.length ≤ 3) := by have h1 := srt_len (opsL (O k) (A k) (B k) (C k) (X k)); have h2 := opsL_len (O k) (A k) (B k) (C k) (X k); rw [hM] at h1; show _ ≤ _; omega
      rw [hM] at h39
      clear hM
      have BA : Hid (Below w.heap.size w (wr.alloc (.cells #[.int .i64 (O k), .int .i64 (D k), .int .i64 (A k), .int .i64 (B k), .int .i64 (C k), .int .u32 (X k)] 51))) := BQ.alloc BQ.size _
      have d0 : (wr.alloc (.cells #[.int .i64 (O k), .int .i64 (D k), .int .i64 (A k), .int .i64 (B k), .int .i64 (C k), .int .u32 (X k)] 51)).cell? ⟨wr.heap.size, 0, none⟩ = some (.int .i64 (O k)) := by simp
      have d1 : (wr.alloc (.cells #[.int .i64 (O k), .int .i64 (D k), .int .i64 (A k), .int .i64 (B k), .int .i64 (C k), .int .u32 (X k)] 51)).cell? ⟨wr.heap.size, 1, none⟩ = some (.int .i64 (D k)) := by simp
      have d2 : (wr.alloc (.cells #[.int .i64 (O k), .int .i64 (D k), .int .i64 (A k), .int .i64 (B k), .int .i64 (C k), .int .u32 (X k)] 51)).cell? ⟨wr.heap.size, 2, none⟩ = some (.int .i64 (A k)) := by simp
      have d3 : (wr.alloc (.cells #[.int .i64 (O k), .int .i64 (D k), .int .i64 (A k), .int .i64 (B k), .int .i64 (C k), .int .u32 (X k)] 51)).cell? ⟨wr.heap.size, 3, none⟩ = some (.int .i64 (B k)) := by simp
      have d4 : (wr.alloc (.cells #[.int .i64 (O k), .int .i64 (D k), .int .i64 (A k), .int .i64 (B k), .int .i64 (C k), .int .u32 (X k)] 51)).cell? ⟨wr.heap.size, 4, none⟩ = some (.int .i64 (C k)) := by simp
      have d5 : (wr.alloc (.cells #[.int .i64 (O k), .int .i64 (D k), .int .i64 (A k), .int .i64 (B k), .int .i64 (C k), .int .u32 (X k)] 51)).cell? ⟨wr.heap.size, 5, none⟩ = some (.int .u32 (X k)) := by simp
      have HRb : Hid (0 ≤ r ∧ r ≤ 4294967296) := rb
      clear RK BQ
      cases hnm : nmd (O k) 0
      · rw [hnm] at h63
        simp only [Bool.false_eq_true, if_false] at h63
        have f0 : r > -1 := by omega
        have f0' : ¬ r ≤ -1 := by omega
        have f0'' : -1 < r := by omega
        have HLD : Hid (lds (O k) (D k) r = r) := by show _ = _; unfold lds; rw [hnm]; rfl
        go_wp2_with (first | (go_at_call 40; refine (h63 _).mono ?_; rintro e w2 ⟨rfl, B2⟩; (have e0 := cell_next d0 B2); (have e1 := cell_next d1 B2); (have e2 := cell_next d2 B2); (have e3 := cell_next d3 B2); (have e4 := cell_next d4 B2); (have e5 := cell_next d5 B2); skip) | (go_at_call 73; refine (h39 _).mono ?_; rintro e w3 ⟨u, rfl, RI, B3⟩; (obtain ⟨ad, cp, rfl, CM⟩ := RI.lst)))
        have BB : Hid (Below w.heap.size w w3) := (BA.out.trans (B2.mono BA.out.size)).trans (B3.mono (by have := BA.out.size; have := B2.size; omega))
        clear B2 B3 RI e0 e1 e2 e3 e4 e5 h63 h39
        have HSB : Hid (0 ≤ r ∧ r ≤ 4294967296) := HRb.out
        have HEND : Hid (ups r M = rgn O D A B C X (k + 1)) := by show _ = _; rw [HRG.out, HLD.out, ← HMM.out]; exact ups_mem (fun y => srt_mem y _)
        obtain ⟨m, hm⟩ : ∃ m, M.length = m := ⟨_, rfl⟩
        have HM : Hid (M.length = m) := hm
        have hm3 : m ≤ 3 := by have := HML.out; omega
        have HCM : Hid (∀ i, i < M.length → ∃ g, ad = some ⟨g, 0, none⟩ ∧ World.cell? w3 ⟨g, i, none⟩ = some (.int .i64 (M.getD i 0))) := CM
        rw [hm]
        have HMB : Hid (∀ y, y ∈ M → 0 ≤ y ∧ y < 4294967296) := fun y hy => opsL_bnd (HBD.out k hkn) y ((srt_mem y _).1 (by rw [HMM.out]; exact hy))
        clear CM hm
        go_wp2
        go_loop [3, 25] (fun nn i => ∃ j : Nat, j ≤ m ∧ i = .int .i64 j ∧ nn = .int .i64 (ups r (M.take j))) (fun _ i => m - (intOf i).toNat)
        case atStart => exact ⟨0, by omega, rfl, rfl⟩
        case round =>
          obtain ⟨j, hj, rfl, rfl⟩ := hrel
          by_cases hjm : j < m
          · have i2 : (j : Int) < (m : Int) := by omega
            obtain ⟨g, had, cz⟩ := HCM.out j (by rw [HM.out]; exact hjm)
            subst had
            have HT := ups_take r M j (by rw [HM.out]; exact hjm)
            have zb := HMB.out (M.getD j 0) (getD_mem M j (by rw [HM.out]; exact hjm))
            have tb : ups r (M.take j) ≤ 4294967296 := ups_bnd HSB.out.2 (fun y hy => by have := HMB.out y (List.mem_of_mem_take hy); omega)
            have tb0 : 0 ≤ ups r (M.take j) := by have := (ups_ge (M.take j) r).1; have := HSB.out.1; omega
            generalize M.getD j 0 = z at cz HT zb
            generalize ups r (M.take j) = t at HT tb tb0 ⊢
            unfold up at HT
            by_cases htz : t ≤ z
            · rw [if_pos htz] at HT
              have HTh : Hid (ups r (M.take (j + 1)) = z + 1) := HT
              have w1 : wrap64 (z + 1) = z + 1 := by unfold wrap64; omega
              have f1 : ¬ z < t := by omega
              clear HT zb tb tb0
              go_wp2
              go_round
              case rel => exact ⟨j + 1, hjm, by go_num, by rw [HTh.out, w1]⟩
              case measure => simp [intOf]; omega
            · rw [if_neg htz] at HT
              have HTh : Hid (ups r (M.take (j + 1)) = t) := HT
              have w1 : wrap64 (z + 1) = z + 1 := by unfold wrap64; omega
              have f1 : z < t := by omega
              clear HT zb tb tb0
              go_wp2
              go_round
              case rel => exact ⟨j + 1, hjm, by go_num, by rw [HTh.out]⟩
              case measure => simp [intOf]; omega
          · have i2 : ¬ (j : Int) < (m : Int) := by omega
            have HE : Hid (ups r (M.take j) = rgn O D A B C X (k + 1)) := by show _ = _; rw [List.take_of_length_le (by rw [HM.out]; omega)]; exact HEND.out
            generalize ups r (M.take j) = t at HE ⊢
            go_wp2
            go_roundw
            case rel => exact ⟨k + 1, hkn, by go_num, by rw [HE.out], BB.out⟩
            case measure => simp [intOf]; omega
      · rw [hnm] at h63
        simp only [if_true] at h63
        by_cases hrd : r ≤ D k
        · have f0 : ¬ D k < r := by omega
          have w0 : wrap64 (D k + 1) = D k + 1 := by unfold wrap64; omega
          have HLD : Hid (lds (O k) (D k) r = (D k + 1)) := by show _ = _; unfold lds up; rw [hnm, if_pos rfl, if_pos hrd]
          go_wp2_with (first | (go_at_call 40; refine (h63 _).mono ?_; rintro e w2 ⟨rfl, B2⟩; (have e0 := cell_next d0 B2); (have e1 := cell_next d1 B2); (have e2 := cell_next d2 B2); (have e3 := cell_next d3 B2); (have e4 := cell_next d4 B2); (have e5 := cell_next d5 B2); skip) | (go_at_call 73; refine (h39 _).mono ?_; rintro e w3 ⟨u, rfl, RI, B3⟩; (obtain ⟨ad, cp, rfl, CM⟩ := RI.lst)))
          have BB : Hid (Below w.heap.size w w3) := (BA.out.trans (B2.mono BA.out.size)).trans (B3.mono (by have := BA.out.size; have := B2.size; omega))
          clear B2 B3 RI e0 e1 e2 e3 e4 e5 h63 h39
          have HSB : Hid (0 ≤ (D k + 1) ∧ (D k + 1) ≤ 4294967296) := ⟨by omega, by omega⟩
          have HEND : Hid (ups (D k + 1) M = rgn O D A B C X (k + 1)) := by show _ = _; rw [HRG.out, HLD.out, ← HMM.out]; exact ups_mem (fun y => srt_mem y _)
          obtain ⟨m, hm⟩ : ∃ m, M.length = m := ⟨_, rfl⟩
          have HM : Hid (M.length = m) := hm
          have hm3 : m ≤ 3 := by have := HML.out; omega
          have HCM : Hid (∀ i, i < M.length → ∃ g, ad = some ⟨g, 0, none⟩ ∧ World.cell? w3 ⟨g, i, none⟩ = some (.int .i64 (M.getD i 0))) := CM
          rw [hm]
          have HMB : Hid (∀ y, y ∈ M → 0 ≤ y ∧ y < 4294967296) := fun y hy => opsL_bnd (HBD.out k hkn) y ((srt_mem y _).1 (by rw [HMM.out]; exact hy))
          clear CM hm
          go_wp2
          go_loop [3, 25] (fun nn i => ∃ j : Nat, j ≤ m ∧ i = .int .i64 j ∧ nn = .int .i64 (ups (D k + 1) (M.take j))) (fun _ i => m - (intOf i).toNat)
          case atStart => exact ⟨0, by omega, rfl, rfl⟩
          case round =>
            obtain ⟨j, hj, rfl, rfl⟩ := hrel
            by_cases hjm : j < m
            · have i2 : (j : Int) < (m : Int) := by omega
              obtain ⟨g, had, cz⟩ := HCM.out j (by rw [HM.out]; exact hjm)
              subst had
              have HT := ups_take (D k + 1) M j (by rw [HM.out]; exact hjm)
              have zb := HMB.out (M.getD j 0) (getD_mem M j (by rw [HM.out]; exact hjm))
              have tb : ups (D k + 1) (M.take j) ≤ 4294967296 := ups_bnd HSB.out.2 (fun y hy => by have := HMB.out y (List.mem_of_mem_take hy); omega)
              have tb0 : 0 ≤ ups (D k + 1) (M.take j) := by have := (ups_ge (M.take j) (D k + 1)).1; have := HSB.out.1; omega
              generalize M.getD j 0 = z at cz HT zb
              generalize ups (D k + 1) (M.take j) = t at HT tb tb0 ⊢
              unfold up at HT
              by_cases htz : t ≤ z
              · rw [if_pos htz] at HT
                have HTh : Hid (ups (D k + 1) (M.take (j + 1)) = z + 1) := HT
                have w1 : wrap64 (z + 1) = z + 1 := by unfold wrap64; omega
                have f1 : ¬ z < t := by omega
                clear HT zb tb tb0
                go_wp2
                go_round
                case rel => exact ⟨j + 1, hjm, by go_num, by rw [HTh.out, w1]⟩
                case measure => simp [intOf]; omega
              · rw [if_neg htz] at HT
                have HTh : Hid (ups (D k + 1) (M.take (j + 1)) = t) := HT
                have w1 : wrap64 (z + 1) = z + 1 := by unfold wrap64; omega
                have f1 : z < t := by omega
                clear HT zb tb tb0
                go_wp2
                go_round
                case rel => exact ⟨j + 1, hjm, by go_num, by rw [HTh.out]⟩
                case measure => simp [intOf]; omega
            · have i2 : ¬ (j : Int) < (m : Int) := by omega
              have HE : Hid (ups (D k + 1) (M.take j) = rgn O D A B C X (k + 1)) := by show _ = _; rw [List.take_of_length_le (by rw [HM.out]; omega)]; exact HEND.out
              generalize ups (D k + 1) (M.take j) = t at HE ⊢
              go_wp2
              go_roundw
              case rel => exact ⟨k + 1, hkn, by go_num, by rw [HE.out], BB.out⟩
              case measure => simp [intOf]; omega
        · have f0 : D k < r := by omega
          have HLD : Hid (lds (O k) (D k) r = r) := by show _ = _; unfold lds up; rw [hnm, if_pos rfl, if_neg hrd]
          go_wp2_with (first | (go_at_call 40; refine (h63 _).mono ?_; rintro e w2 ⟨rfl, B2⟩; (have e0 := cell_next d0 B2); (have e1 := cell_next d1 B2); (have e2 := cell_next d2 B2); (have e3 := cell_next d3 B2); (have e4 := cell_next d4 B2); (have e5 := cell_next d5 B2); skip) | (go_at_call 73; refine (h39 _).mono ?_; rintro e w3 ⟨u, rfl, RI, B3⟩; (obtain ⟨ad, cp, rfl, CM⟩ := RI.lst)))
          have BB : Hid (Below w.heap.size w w3) := (BA.out.trans (B2.mono BA.out.size)).trans (B3.mono (by have := BA.out.size; have := B2.size; omega))
          clear B2 B3 RI e0 e1 e2 e3 e4 e5 h63 h39
          have HSB : Hid (0 ≤ r ∧ r ≤ 4294967296) := HRb.out
          have HEND : Hid (ups r M = rgn O D A B C X (k + 1)) := by show _ = _; rw [HRG.out, HLD.out, ← HMM.out]; exact ups_mem (fun y => srt_mem y _)
          obtain ⟨m, hm⟩ : ∃ m, M.length = m := ⟨_, rfl⟩
          have HM : Hid (M.length = m) := hm
          have hm3 : m ≤ 3 := by have := HML.out; omega
          have HCM : Hid (∀ i, i < M.length → ∃ g, ad = some ⟨g, 0, none⟩ ∧ World.cell? w3 ⟨g, i, none⟩ = some (.int .i64 (M.getD i 0))) := CM
          rw [hm]
          have HMB : Hid (∀ y, y ∈ M → 0 ≤ y ∧ y < 4294967296) := fun y hy => opsL_bnd (HBD.out k hkn) y ((srt_mem y _).1 (by rw [HMM.out]; exact hy))
          clear CM hm
          go_wp2
          go_loop [3, 25] (fun nn i => ∃ j : Nat, j ≤ m ∧ i = .int .i64 j ∧ nn = .int .i64 (ups r (M.take j))) (fun _ i => m - (intOf i).toNat)
          case atStart => exact ⟨0, by omega, rfl, rfl⟩
          case round =>
            obtain ⟨j, hj, rfl, rfl⟩ := hrel
            by_cases hjm : j < m
            · have i2 : (j : Int) < (m : Int) := by omega
              obtain ⟨g, had, cz⟩ := HCM.out j (by rw [HM.out]; exact hjm)
              subst had
              have HT := ups_take r M j (by rw [HM.out]; exact hjm)
              have zb := HMB.out (M.getD j 0) (getD_mem M j (by rw [HM.out]; exact hjm))
              have tb : ups r (M.take j) ≤ 4294967296 := ups_bnd HSB.out.2 (fun y hy => by have := HMB.out y (List.mem_of_mem_take hy); omega)
              have tb0 : 0 ≤ ups r (M.take j) := by have := (ups_ge (M.take j) r).1; have := HSB.out.1; omega
              generalize M.getD j 0 = z at cz HT zb
              generalize ups r (M.take j) = t at HT tb tb0 ⊢
              unfold up at HT
              by_cases htz : t ≤ z
              · rw [if_pos htz] at HT
                have HTh : Hid (ups r (M.take (j + 1)) = z + 1) := HT
                have w1 : wrap64 (z + 1) = z + 1 := by unfold wrap64; omega
                have f1 : ¬ z < t := by omega
                clear HT zb tb tb0
                go_wp2
                go_round
                case rel => exact ⟨j + 1, hjm, by go_num, by rw [HTh.out, w1]⟩
                case measure => simp [intOf]; omega
              · rw [if_neg htz] at HT
                have HTh : Hid (ups r (M.take (j + 1)) = t) := HT
                have w1 : wrap64 (z + 1) = z + 1 := by unfold wrap64; omega
                have f1 : z < t := by omega
                clear HT zb tb tb0
                go_wp2
                go_round
                case rel => exact ⟨j + 1, hjm, by go_num, by rw [HTh.out]⟩
                case measure => simp [intOf]; omega
            · have i2 : ¬ (j : Int) < (m : Int) := by omega
              have HE : Hid (ups r (M.take j) = rgn O D A B C X (k + 1)) := by show _ = _; rw [List.take_of_length_le (by rw [HM.out]; omega)]; exact HEND.out
              generalize ups r (M.take j) = t at HE ⊢
              go_wp2
              go_roundw
              case rel => exact ⟨k + 1, hkn, by go_num, by rw [HE.out], BB.out⟩
              case measure => simp [intOf]; omega
    · have i1 : ¬ (k : Int) < (n : Int) := by omega
      obtain rfl : k = n := by omega
      go_wp2
      go_ret
      exact ⟨rfl, BQ⟩
def regsV (O D A B C X : Nat → Int) (n : Nat) : Int := if goodC O D A B C X n then rgn O D A B C X n else 0
end Go.Proofs.YtmeokhppaekhpaaGreatDoor
