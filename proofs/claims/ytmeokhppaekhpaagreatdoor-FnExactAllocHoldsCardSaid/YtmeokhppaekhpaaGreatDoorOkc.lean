/- Behind which instructions a register lives: the search from those that read it upwards, without a program; the program's livesBehind. The program's livesBehind: the instructions behind which a register lives. What good code gives: targets, what may come next, registers below how many there are. No function of the program is spoken of here. -/
import Derived.Test.YtmeokhppaekhpaaGreatDoorTrn
import Derived.Test.YtmeokhppaekhpaaGreatDoorRci
import Derived.Test.YtmeokhppaekhpaaGreatDoorRgi
namespace Go.Proofs.YtmeokhppaekhpaaGreatDoor
open Go.ChangeShapes Go.WideShapes Go.ChangeAt Go.RowKit
set_option linter.unusedVariables false
/-- It is known that a register lives ahead of an instruction. -/
def Kn (c : Cd) (r : Nat) (S : Nat → Bool) (t : Nat) : Prop := (r : Int) ∈ opsL (c.O t) (c.A t) (c.B t) (c.C t) (c.X t) ∨ (S t = true ∧ ¬ c.wr t r)
/-- What holds while it is looked for: S what is found, L what is still to be looked at, P those that come ahead; of t0 the first j were looked at. -/
structure BI (c : Cd) (r : Nat) (P : Nat → List Int) (S : Nat → Bool) (L : List Int) (t0 : Nat) (j : Nat) : Prop where
  sound : ∀ k, S k = true → k < c.n ∧ LB c k r
  queue : ∀ t, t ∈ L → 0 ≤ t ∧ t < c.n ∧ LA c t.toNat r
  closed : ∀ t : Nat, t < c.n → Kn c r S t → (t : Int) ∈ L ∨ (∀ k : Nat, (k : Int) ∈ P t → S k = true) ∨ (t = t0 ∧ ∀ k : Nat, (k : Int) ∈ (P t).take j → S k = true)
  cur : 0 < c.n → (t0 < c.n → LA c t0 r)
/-- .. between two of them. -/
structure BO (c : Cd) (r : Nat) (P : Nat → List Int) (S : Nat → Bool) (L : List Int) : Prop where
  sound : ∀ k, S k = true → k < c.n ∧ LB c k r
  queue : ∀ t, t ∈ L → 0 ≤ t ∧ t < c.n ∧ LA c t.toNat r
  closed : ∀ t : Nat, t < c.n → Kn c r S t → (t : Int) ∈ L ∨ (∀ k : Nat, (k : Int) ∈ P t → S k = true)
theorem bo_begin (c : Cd) (r : Nat) (P : Nat → List Int) (L : List Int) (h : ∀ t, t ∈ L ↔ 0 ≤ t ∧ t < c.n ∧ (r : Int) ∈ opsL (c.O t.toNat) (c.A t.toNat) (c.B t.toNat) (c.C t.toNat) (c.X t.toNat)) : BO c r P (fun _ => false) L :=
  ⟨fun k hk => (by cases hk), fun t ht => by
    obtain ⟨h0, h1, h2⟩ := (h t).1 ht
    exact ⟨h0, h1, .read _ _ (by omega) h2⟩, fun t ht hk => by
    rcases hk with hk | hk
    · exact Or.inl ((h t).2 ⟨by omega, by omega, by rw [Int.toNat_natCast]; exact hk⟩)
    · cases hk.1⟩
theorem BO.pop {c : Cd} {r : Nat} {P : Nat → List Int} {S : Nat → Bool} {L : List Int} {t0 : Nat} (h : BO c r P S ((t0 : Int) :: L)) : BI c r P S L t0 0 :=
  ⟨h.sound, fun t ht => h.queue t (by simp [ht]), fun t ht hk => by
    rcases h.closed t ht hk with q | q
    · rcases List.mem_cons.1 q with q | q
      · exact Or.inr (Or.inr ⟨by omega, fun k hk => by simp at hk⟩)
      · exact Or.inl q
    · exact Or.inr (Or.inl q), fun _ _ => by have := (h.queue t0 (by simp)).2.2; rwa [Int.toNat_natCast] at this⟩
theorem BI.full {c : Cd} {r : Nat} {P : Nat → List Int} {S : Nat → Bool} {L : List Int} {t0 : Nat} (h : BI c r P S L t0 (P t0).length) : BO c r P S L :=
  ⟨h.sound, h.queue, fun t ht hk => by
    rcases h.closed t ht hk with q | q | ⟨rfl, q⟩
    · exact Or.inl q
    · exact Or.inr q
    · rw [List.take_length] at q
      exact Or.inr q⟩
theorem putB_at (S : Nat → Bool) (k : Nat) : putB S k k = true := by unfold putB; rw [if_pos rfl]
theorem putB_mono {S : Nat → Bool} {k i : Nat} (h : S i = true) : putB S k i = true := by unfold putB; split; rfl; exact h
theorem putB_inv {S : Nat → Bool} {k i : Nat} (h : putB S k i = true) : i = k ∨ S i = true := by
  unfold putB at h
  split at h
  · exact Or.inl (by assumption)
  · exact Or.inr h
theorem BI.step {c : Cd} {r : Nat} {P : Nat → List Int} {S : Nat → Bool} {L L' : List Int} {t0 j x : Nat} (h : BI c r P S L t0 j) (ht0 : t0 < c.n) (hj : j < (P t0).length) (hx : (P t0).getD j 0 = (x : Int)) (hxn : x < c.n) (hs : (t0 : Int) ∈ sucL (c.O x) (c.A x) (c.B x) (c.C x) x) (hL : (S x = false ∧ ¬ c.wr x r ∧ L' = L ++ [(x : Int)]) ∨ ((S x = true ∨ c.wr x r) ∧ L' = L)) : BI c r P (putB S x) L' t0 (j + 1) := by
  have lb : LB c x r := ⟨t0, hs, h.cur (by omega) ht0⟩
  have sub : ∀ t, t ∈ L → t ∈ L' := fun t ht => by
    rcases hL with ⟨_, _, rfl⟩ | ⟨_, rfl⟩
    · exact List.mem_append.2 (Or.inl ht)
    · exact ht
  refine ⟨fun k hk => ?_, fun t ht => ?_, fun t ht hk => ?_, h.cur⟩
  · rcases putB_inv hk with rfl | hk
    · exact ⟨hxn, lb⟩
    · exact h.sound k hk
  · rcases hL with ⟨_, hw, rfl⟩ | ⟨_, rfl⟩
    · rcases List.mem_append.1 ht with q | q
      · exact h.queue t q
      · obtain rfl : t = (x : Int) := by simpa using q
        exact ⟨by omega, by omega, by rw [Int.toNat_natCast]; exact LA.of_behind hxn lb hw⟩
    · exact h.queue t ht
  · have old : Kn c r S t → (t : Int) ∈ L' ∨ (∀ k : Nat, (k : Int) ∈ P t → putB S x k = true) ∨ (t = t0 ∧ ∀ k : Nat, (k : Int) ∈ (P t).take (j + 1) → putB S x k = true) := fun hk => by
      rcases h.closed t ht hk with q | q | ⟨rfl, q⟩
      · exact Or.inl (sub _ q)
      · exact Or.inr (Or.inl fun k hk => putB_mono (q k hk))
      · refine Or.inr (Or.inr ⟨rfl, fun k hk => ?_⟩)
        rw [take_snoc _ _ hj] at hk
        rcases List.mem_append.1 hk with hk | hk
        · exact putB_mono (q k hk)
        · rw [hx] at hk
          obtain rfl : k = x := by have := List.mem_singleton.1 hk; omega
          exact putB_at S k
    rcases hk with hk | ⟨hk, hw⟩
    · exact old (Or.inl hk)
    · rcases putB_inv hk with rfl | hk
      · rcases hL with ⟨_, _, rfl⟩ | ⟨q | q, rfl⟩
        · exact Or.inl (by simp)
        · exact old (Or.inr ⟨q, hw⟩)
        · exact absurd q hw
      · exact old (Or.inr ⟨hk, hw⟩)
theorem BO.kn {c : Cd} {r : Nat} {P : Nat → List Int} {S : Nat → Bool} (h : BO c r P S []) (hP : ∀ t, t < c.n → ∀ k : Nat, k < c.n → (t : Int) ∈ sucL (c.O k) (c.A k) (c.B k) (c.C k) k → (k : Int) ∈ P t) {t : Nat} (ha : LA c t r) : Kn c r S t := by
  induction ha with
  | read k r hk hm => exact Or.inl hm
  | pass k t r hk hs hw ha ih =>
    rcases h.closed t ha.lt (ih h) with q | q
    · cases q
    · exact Or.inr ⟨q k (hP t ha.lt k hk hs), hw⟩
theorem BO.fin {c : Cd} {r : Nat} {P : Nat → List Int} {S : Nat → Bool} (h : BO c r P S []) (hP : ∀ t, t < c.n → ∀ k : Nat, k < c.n → (t : Int) ∈ sucL (c.O k) (c.A k) (c.B k) (c.C k) k → (k : Int) ∈ P t) (k : Nat) (hk : k < c.n) : S k = lbB c k r := by
  unfold lbB
  by_cases q : LB c k r
  · rw [@decide_eq_true _ (Classical.propDecidable _) q]
    obtain ⟨t, hs, ha⟩ := q
    rcases h.closed t ha.lt (h.kn hP ha) with q | q
    · cases q
    · exact q k (hP t ha.lt k hk hs)
  · rw [@decide_eq_false _ (Classical.propDecidable _) q]
    cases e : S k
    · rfl
    · exact absurd (h.sound k e).2 q
theorem cnt_le2 (S : Nat → Bool) (k n : Nat) (hk : k < n) : cntF (putB S k) n ≤ cntF S n := by
  cases h : S k
  · have := cnt_put S k h n hk
    omega
  · have : putB S k = S := by
      funext i
      unfold putB
      by_cases e : i = k
      · rw [if_pos e, e, h]
      · rw [if_neg e]
    rw [this]
    exact Nat.le_refl _
theorem whL_ext {Z Y : Nat → Bool} : ∀ n, (∀ i, i < n → Z i = Y i) → whL Z n = whL Y n
  | 0, _ => rfl
  | n + 1, h => by rw [whL, whL, whL_ext n (fun i hi => h i (by omega)), h n (by omega)]
set_option maxRecDepth 100000 in
set_option maxHeartbeats 2000000 in
theorem writesTo68 (o d a b c x r : Int) (w : World) : Calls Tryz.prog 90 #[.agg #[.int .i64 o, .int .i64 d, .int .i64 a, .int .i64 b, .int .i64 c, .int .u32 x], .int .i64 r] w fun e w' => e = .returned (.bool (nmd o 0 && (d == r))) ∧ Below w.heap.size w w' := by
  have BA : Below w.heap.size w (w.alloc (.cells #[.int .i64 o, .int .i64 d, .int .i64 a, .int .i64 b, .int .i64 c, .int .u32 x] 51)) := (Below.refl _ _).alloc (Nat.le_refl _) _
  have d1 : (w.alloc (.cells #[.int .i64 o, .int .i64 d, .int .i64 a, .int .i64 b, .int .i64 c, .int .u32 x] 51)).cell? ⟨w.heap.size, 1, none⟩ = some (.int .i64 d) := by simp
  have h45 := writes85 o (w.alloc (.cells #[.int .i64 o, .int .i64 d, .int .i64 a, .int .i64 b, .int .i64 c, .int .u32 x] 51))
  have HB : Hid (Below w.heap.size w (w.alloc (.cells #[.int .i64 o, .int .i64 d, .int .i64 a, .int .i64 b, .int .i64 c, .int .u32 x] 51))) := BA
  cases hn : nmd o 0
  · rw [hn] at h45
    clear hn
    go_enter Tryz.func90, Tryz.ntmps90
    go_wp2_with (go_at_call 57; refine h45.mono ?_; rintro e w1 ⟨rfl, B1⟩)
    go_ret
    exact ⟨rfl, HB.out.trans (B1.mono HB.out.size)⟩
  · rw [hn] at h45
    clear hn
    go_enter Tryz.func90, Tryz.ntmps90
    go_wp2_with (go_at_call 57; refine h45.mono ?_; rintro e w1 ⟨rfl, B1⟩; (have e1 := cell_nx d1 B1))
    go_ret
    exact ⟨rfl, HB.out.trans (B1.mono HB.out.size)⟩
set_option maxRecDepth 100000 in
set_option maxHeartbeats 2000000 in
theorem in70 (k g : Nat) (o d a b c x : Int) (S : Nat → Bool) (w : World) (hk : k < 600) (OS : Own w g 600 fun i => .bool (S i)) : Calls Tryz.prog 122 #[.int .i64 (k : Int), .agg #[.int .i64 o, .int .i64 d, .int .i64 a, .int .i64 b, .int .i64 c, .int .u32 x], .pointer (some ⟨g, 0, none⟩)] w fun e w' => e = .returned (.bool (S k)) ∧ Below w.heap.size w w' := by
  have i0 : (0 : Int) ≤ (k : Int) := by omega
  have i1 : (k : Int) < 600 := by omega
  have ck := (OS.next (w' := w.alloc (.cells #[.int .i64 o, .int .i64 d, .int .i64 a, .int .i64 b, .int .i64 c, .int .u32 x] 51)) ((Below.refl _ _).alloc (Nat.le_refl _) _)).cell k hk
  clear OS
  generalize S k = b0 at ck ⊢
  go_enter Tryz.func122, Tryz.ntmps122
  go_wp2
  go_ret
  exact ⟨rfl, (Below.refl _ _).alloc (Nat.le_refl _) _⟩
set_option maxRecDepth 100000 in
set_option maxHeartbeats 4000000 in
theorem where69 (n a cap : Nat) (g : Nat) (O D A B C X : Nat → Int) (Z : Nat → Bool) (w : World) (R : RowI w a n O D A B C X) (n1 : n ≤ 600) (HG : ∀ i, i < n → ∀ v, Below w.heap.size w v → Calls Tryz.prog 122 #[.int .i64 (i : Int), .agg #[.int .i64 (O i), .int .i64 (D i), .int .i64 (A i), .int .i64 (B i), .int .i64 (C i), .int .u32 (X i)], .pointer (some ⟨g, 0, none⟩)] v fun e w' => e = .returned (.bool (Z i)) ∧ Below v.heap.size v w') : Calls Tryz.prog 121 #[.slice (some ⟨a, 0, none⟩) n cap, .func (.func 122) #[] #[.pointer (some ⟨g, 0, none⟩)]] w fun e w' => ∃ v, e = .returned v ∧ IOwn w.heap.size w' v (whL Z n) ∧ Below w.heap.size w w' := by
  obtain ⟨i3, hi3, hz30, hz31, hz32⟩ := info_parts info3
  have HR : Hid (RowI w a n O D A B C X) := R
  have H : Hid (∀ i, i < n → ∀ v, Below w.heap.size w v → Calls Tryz.prog 122 #[.int .i64 (i : Int), .agg #[.int .i64 (O i), .int .i64 (D i), .int .i64 (A i), .int .i64 (B i), .int .i64 (C i), .int .u32 (X i)], .pointer (some ⟨g, 0, none⟩)] v fun e w' => e = .returned (.bool (Z i)) ∧ Below v.heap.size v w') := HG
  clear R HG
  go_enter Tryz.func121, Tryz.ntmps121
  go_wp2
  go_loopw [5, 10] (fun vv i wr => ∃ (k : Nat) (u : Value), k ≤ n ∧ i = .int .i64 k ∧ u = vv ∧ Hid (Ri w.heap.size wr u (whL Z k)) ∧ Hid (Below w.heap.size w wr)) (fun _ i _ => n - (intOf i).toNat)
  case atStart => exact ⟨0, _, by omega, rfl, rfl, ⟨World.ownsRow_nil _ _ _ _, Nat.le_refl _⟩, Below.refl _ _⟩
  case round =>
    obtain ⟨k, u, hk, rfl, rfl, HU, HB⟩ := hrel
    by_cases hkn : k < n
    · have i1 : (k : Int) < (n : Int) := by omega
      have i0 : (0 : Int) ≤ (k : Int) := by omega
      have RK := HR.out.next HB.out
      have c0 := RK.c0 k hkn
      have c1 := RK.c1 k hkn
      have c2 := RK.c2 k hkn
      have c3 := RK.c3 k hkn
      have c4 := RK.c4 k hkn
      have c5 := RK.c5 k hkn
      have BA : Hid (Below w.heap.size w (wr.alloc (.cells #[.int .i64 (O k), .int .i64 (D k), .int .i64 (A k), .int .i64 (B k), .int .i64 (C k), .int .u32 (X k)] 51))) := HB.out.alloc HB.out.size _
      have UA : Hid (Ri w.heap.size (wr.alloc (.cells #[.int .i64 (O k), .int .i64 (D k), .int .i64 (A k), .int .i64 (B k), .int .i64 (C k), .int .u32 (X k)] 51)) u (whL Z k)) := HU.out.alloc _
      have hg := H.out k hkn _ BA.out
      have HC : Hid (whL Z (k + 1) = whL Z k ++ (if Z k then [(k : Int)] else [])) := rfl
      have HLn : Hid ((whL Z k).length ≤ 600) := by have := whL_len Z k; show _ ≤ _; omega
      clear RK HU HB
      generalize whL Z k = L at UA HC HLn
      cases hf : Z k
      · rw [hf] at hg HC
        have HC : Hid (whL Z (k + 1) = L) := by have := HC.out; show _ = _; rw [this]; simp
        clear hf
        go_wp2_with (go_at_call 122; refine hg.mono ?_; rintro e w1 ⟨rfl, B1⟩)
        go_roundw
        case rel => exact ⟨k + 1, _, by omega, by go_num, rfl, by rw [HC.out]; exact UA.out.next B1, BA.out.trans (B1.mono BA.out.size)⟩
        case measure => simp [intOf]; omega
      · rw [hf] at hg HC
        have HC : Hid (whL Z (k + 1) = L ++ [(k : Int)]) := HC
        clear hf
        go_wp2_with (first | (go_at_call 122; refine hg.mono ?_; rintro e w1 ⟨rfl, B1⟩) | (at_builtin; refine wpList_append_own _ rfl _ _ 24 rfl w.heap.size 3 i3 (.int .i64 0) 1 8 Tryz.underlying24 hi3 hz30 hz31 hz32 rfl (by decide) _ _ _ rfl ((UA.out.next B1).alloc _).1 ⟨_, 0, none⟩ 1 1 [.int .i64 (k : Int)] rfl rfl ?_ ?_ ?_ ?_ ?_ ?_))
        · intro j u hj
          match j, hj with
          | 0, hj => simp at hj; subst hj; simp [Addr.add]
        · intro u hu; simp at hu; subst hu; rfl
        · have := HLn.out; unfold maxLen; omega
        · have := HLn.out; omega
        · have := BA.out.size; have := B1.size; simp at *; omega
        intro v3 w3 hown hgrow _
        have B3 : Hid (Below w.heap.size w w3) := ((BA.out.trans (B1.mono BA.out.size)).alloc (by have := BA.out.size; have := B1.size; omega) _).grown hgrow (by have := BA.out.size; have := B1.size; simp at *; omega) (fun q hq => (UA.out.lt q hq).1)
        have U3 : Hid (Ri w.heap.size w3 v3 (whL Z (k + 1))) := by
          show Ri _ _ _ _
          rw [HC.out]
          refine ⟨?_, B3.out.size⟩
          rw [List.length_append, il_app]
          exact hown
        clear hown hgrow UA BA
        go_wp2
        go_roundw
        case rel => exact ⟨k + 1, _, by omega, by go_num, rfl, U3, B3⟩
        case measure => simp [intOf]; omega
    · obtain rfl : k = n := by omega
      have i1 : ¬ (k : Int) < (k : Int) := by omega
      go_wp2
      go_ret
      exact ⟨_, rfl, HU.out.own, HB.out⟩
set_option maxRecDepth 100000 in
set_option maxHeartbeats 4000000 in
theorem clone67 (g o cap : Nat) (L : List Int) (w : World) (n1 : L.length ≤ 5000) (O : ∀ i, i < L.length → w.cell? ⟨g, o + i, none⟩ = some (.int .i64 (L.getD i 0))) : Calls Tryz.prog 120 #[.slice (some ⟨g, o, none⟩) L.length cap] w fun e w' => ∃ v, e = .returned v ∧ ((L = [] ∧ ∃ ad c, v = .slice ad 0 c) ∨ Que w.heap.size w' v L) ∧ Below w.heap.size w w' := by
  obtain ⟨i3, hi3, hz30, hz31, hz32⟩ := info_parts info3
  have B0 : Below w.heap.size w (w.alloc (.cells #[] 3)) := (Below.refl _ _).alloc (Nat.le_refl _) _
  have HO : Hid (∀ i, i < L.length → (w.alloc (.cells #[] 3)).cell? ⟨g, o + i, none⟩ = some (.int .i64 (L.getD i 0))) := fun i hi => cell_nx (O i hi) B0
  have H0 : Hid ((w.alloc (.cells #[] 3)).ownsRow w.heap.size 3 1 (.slice (some ⟨w.heap.size, 0, none⟩) 0 0) 0 []) := World.ownsRow_lit w #[] 0 (Nat.le_refl _) (by decide) rfl
  have qn : ∀ v : World, (binOp .eql 24 (.slice (some ⟨g, o, none⟩) L.length cap) (.slice none 0 0)).run Tryz.prog v = .ok (.bool false) v := fun v => Lib.run_eql_slice_nil v 24 3 (some ⟨g, o, none⟩) L.length cap 0 0 Tryz.underlying24
  clear O B0
  go_enter Tryz.func120, Tryz.ntmps120
  go_wp2_with (at_builtin; refine wpList_append_own _ rfl _ _ 24 rfl w.heap.size 3 i3 (.int .i64 0) 1 8 Tryz.underlying24 hi3 hz30 hz31 hz32 rfl (by decide) _ _ _ rfl H0.out ⟨g, o, none⟩ L.length cap (il L) rfl ?c0 ?c1 ?c2 ?c3 ?c4 ?c5 ?_)
  case c0 => simp [il]
  case c1 =>
    intro j u hj
    have hjl : j < L.length := by have := (List.getElem?_eq_some_iff.1 hj).1; simpa [il] using this
    rw [Addr.add_lit, HO.out j hjl]
    simp [il, hjl] at hj
    rw [← hj]
    simp [List.getD, hjl]
  case c2 =>
    intro u hu
    simp [il] at hu
    obtain ⟨_, _, rfl⟩ := hu
    rfl
  case c3 => unfold maxLen; omega
  case c4 => omega
  case c5 => simp
  intro v3 w3 hown hgrow _
  have hown' : w3.ownsRow w.heap.size 3 1 v3 L.length (il L) := by simpa using hown
  have B3 : Below w.heap.size w w3 := ((Below.refl _ _).alloc (Nat.le_refl _) _).grown hgrow (by simp) (fun q hq => by simp [Value.ownBlock] at hq; omega)
  have hQ : Hid ((L = [] ∧ ∃ ad c, v3 = .slice ad 0 c) ∨ Que w.heap.size w3 v3 L) := by
    by_cases e : L = []
    · subst e
      left
      refine ⟨rfl, ?_⟩
      rcases hown'.2 with ⟨hv, h0⟩ | ⟨g, cap, cur, hv, _⟩
      · exact ⟨_, _, hv⟩
      · exact ⟨_, _, hv⟩
    · exact Or.inr (que_own hown' rfl (List.length_pos_iff.2 e))
  clear hown hgrow hown' H0 HO
  go_wp2
  go_ret
  exact ⟨v3, rfl, hQ.out, B3⟩
end Go.Proofs.YtmeokhppaekhpaaGreatDoor
namespace Go.Proofs.YtmeokhppaekhpaaGreatDoor
open Go.ChangeShapes Go.WideShapes Go.ChangeAt Go.RowKit
set_option linter.unusedVariables false
theorem Hid.mk {p : Prop} (h : p) : Hid p := h
theorem IOwn.low {B C : Nat} {w : World} {v : Value} {L : List Int} (h : IOwn B w v L) (hC : C ≤ B) : IOwn C w v L := by
  rcases h with h | ⟨g, c, h1, h2, h3, h4⟩
  · exact Or.inl h
  · exact Or.inr ⟨g, c, h1, h2, by omega, h4⟩
set_option maxRecDepth 100000 in
set_option maxHeartbeats 16000000 in
theorem lives44 (n a cap R r : Nat) (c : Cd) (K : LvOk c R) (hn : c.n = n) (w : World) (RI : RowI w a n c.O c.D c.A c.B c.C c.X) (g0 o0 cp0 : Nat) (Rd : List Int) (ORd : ∀ i, i < Rd.length → w.cell? ⟨g0, o0 + i, none⟩ = some (.int .i64 (Rd.getD i 0))) (hRd : ∀ t, t ∈ Rd ↔ 0 ≤ t ∧ t < n ∧ (r : Int) ∈ opsL (c.O t.toNat) (c.A t.toNat) (c.B t.toNat) (c.C t.toNat) (c.X t.toNat)) (lRd : Rd.length ≤ 1800) (av : Value) (P : Nat → List Int) (HA : ARows w av n P) (hP : ∀ t : Nat, t < n → ∀ k : Int, k ∈ P t ↔ 0 ≤ k ∧ k < n ∧ (t : Int) ∈ sucL (c.O k.toNat) (c.A k.toNat) (c.B k.toNat) (c.C k.toNat) k.toNat) (lP : ∀ t, t < n → (P t).length ≤ 1800) : Calls Tryz.prog 109 #[.slice (some ⟨a, 0, none⟩) n cap, .int .i64 (r : Int), .slice (some ⟨g0, o0, none⟩) Rd.length cp0, av] w fun e w' => ∃ v, e = .returned v ∧ IOwn w.heap.size w' v (whL (fun k => lbB c k r) n) ∧ Below w.heap.size w w' := by
  obtain ⟨i3, hi3, hz30, hz31, hz32⟩ := info_parts info3
  have z78 := zv44
  have n1 : n ≤ 600 := by rw [← hn]; exact K.n1
  have n0 : 1 ≤ n := by rw [← hn]; exact K.n0
  obtain ⟨ada, ca, rfl, HAI⟩ := HA
  obtain ⟨qa, oa, _, rfl, _⟩ := HAI 0 (by omega)
  have HAC : Hid (∀ i, i < n → ∃ ad2 c2, w.cell? ⟨qa, oa + i, none⟩ = some (.slice ad2 (P i).length c2) ∧ ∀ j, j < (P i).length → ∃ g o, ad2 = some ⟨g, o, none⟩ ∧ w.cell? ⟨g, o + j, none⟩ = some (.int .i64 ((P i).getD j 0))) := fun i hi => by
    obtain ⟨q, o, u, h1, h2, ad2, c2, rfl, h3⟩ := HAI i hi
    injection h1 with h1
    injection h1 with e1 e2
    subst e1
    subst e2
    exact ⟨ad2, c2, h2, h3⟩
  have HR : Hid (RowI w a n c.O c.D c.A c.B c.C c.X) := RI
  have HK : Hid (LvOk c R) := K
  have HN : Hid (c.n = n) := hn
  have HP : Hid (∀ t : Nat, t < n → ∀ k : Int, k ∈ P t ↔ 0 ≤ k ∧ k < n ∧ (t : Int) ∈ sucL (c.O k.toNat) (c.A k.toNat) (c.B k.toNat) (c.C k.toNat) k.toNat) := hP
  have HLP : Hid (∀ t, t < n → (P t).length ≤ 1800) := lP
  have HB0 : Hid (BO c r P (fun _ => false) Rd) := bo_begin c r P Rd (fun t => by rw [hn]; exact hRd t)
  have B1 : Below w.heap.size w (w.alloc (.cells (bits fun _ => false) 129)) := (Below.refl _ _).alloc (Nat.le_refl _) _
  have h67 := clone67 g0 o0 cp0 Rd (w.alloc (.cells (bits fun _ => false) 129)) (by omega) (fun i hi => cell_nx (ORd i hi) B1)
  have HO1 : Hid (Own (w.alloc (.cells (bits fun _ => false) 129)) w.heap.size 600 (fun _ => .bool false)) := own_vals w _ 600 129
  have HB1 : Hid (Below w.heap.size w (w.alloc (.cells (bits fun _ => false) 129))) := B1
  rw [World.size_alloc] at h67
  clear ORd hRd HAI hP lP RI K hn B1
  go_enter Tryz.func109, Tryz.ntmps109
  go_wp2_with (go_at_call 120; refine h67.mono ?_; rintro e w2 ⟨v2, rfl, hQ, B2⟩)
  have HQ2 : Hid ((Rd = [] ∧ ∃ ad c, v2 = .slice ad 0 c) ∨ Que (w.heap.size + 1) w2 v2 Rd) := hQ
  have B2' : Below (w.alloc (.cells (bits fun _ => false) 129)).heap.size (w.alloc (.cells (bits fun _ => false) 129)) w2 := by rw [World.size_alloc]; exact B2
  have HO2 : Hid (Own w2 w.heap.size 600 (fun _ => .bool false)) := HO1.out.next B2'
  have HB2 : Hid (Below w.heap.size w w2) := HB1.out.trans (B2.mono (by omega))
  clear hQ B2 B2' HO1 HB1 h67
  go_loopg [10] (cntF (fun _ => false) n + Rd.length) (fun gk vv wr => ∃ (L : List Int) (S : Nat → Bool) (u : Value), gk = cntF S n + L.length ∧ u = vv ∧ Hid ((L = [] ∧ ∃ ad c, u = .slice ad 0 c) ∨ Que (w.heap.size + 1) wr u L) ∧ Hid (Own wr w.heap.size 600 (fun i => .bool (S i))) ∧ Hid (BO c r P S L) ∧ Hid (Below w.heap.size w wr) ∧ gk ≤ 4000)
  case atStart => exact ⟨Rd, fun _ => false, _, rfl, rfl, HQ2, HO2, HB0, HB2, by have := cnt_le (fun _ => false) n; omega⟩
  case round =>
    obtain ⟨L0, S, u, hgk, rfl, HL, HS, HI, HBw, hg5⟩ := hrel
    clear HQ2 HO2 HB2 HB0
    cases L0 with
    | nil =>
      obtain ⟨ad, c0, rfl⟩ : ∃ ad c0, u = .slice ad 0 c0 := by
        rcases HL.out with ⟨_, h⟩ | ⟨g, off, cp, h, _⟩
        · exact h
        · exact ⟨_, _, h⟩
      have h69 := where69 n a cap w.heap.size c.O c.D c.A c.B c.C c.X S wr (HR.out.next HBw.out) n1 (fun i hi v b => in70 i w.heap.size _ _ _ _ _ _ S v (by omega) (HS.out.next b))
      rw [whL_ext (Z := S) (Y := fun k => lbB c k r) n (fun i hi => HI.out.fin (fun t ht k hk hs => (HP.out t (by rw [← HN.out]; exact ht) (k : Int)).2 ⟨by omega, by rw [← HN.out]; omega, by rw [Int.toNat_natCast]; exact hs⟩) i (by rw [HN.out]; exact hi))] at h69
      clear HL HS HI
      go_wp2_with (go_at_call 121; refine h69.mono ?_; rintro e w3 ⟨v3, rfl, I3, B3⟩)
      go_ret
      exact ⟨v3, rfl, I3.low HBw.out.size, HBw.out.trans (B3.mono HBw.out.size)⟩
    | cons t L =>
      have HL : Hid (Que (w.heap.size + 1) wr u (t :: L)) := by
        rcases HL.out with ⟨h, _⟩ | h
        · cases h
        · exact h
      obtain ⟨g, off, cp, rfl, _⟩ := id HL.out
      simp only [List.length_cons] at HL hgk ⊢
      obtain ⟨ct, Q1, Q2⟩ := HL.out.drop
      obtain ⟨t0, t1, _⟩ := HI.out.queue t (by simp)
      have hcp : L.length + 1 ≤ cp := by obtain ⟨_, _, _, hv, _, _, h, _⟩ := HL.out; injection hv with _ _ h3; subst h3; simpa using h
      obtain ⟨kt, rfl⟩ : ∃ kt : Nat, t = (kt : Int) := ⟨t.toNat, by omega⟩
      rw [HN.out] at t1
      have hk : kt < n := by omega
      have k6 : (kt : Int) < (n : Int) := by omega
      have k0 : (0 : Int) ≤ (kt : Int) := by omega
      have m0 : (0 : Int) < ((L.length + 1 : Nat) : Int) := by omega
      have m1 : (1 : Int) ≤ ((L.length + 1 : Nat) : Int) := by omega
      have m2 : (0 : Int) < (L.length : Int) + 1 := by omega
      have m3 : (1 : Int) ≤ (L.length : Int) + 1 := by omega
      have BI0 : Hid (BI c r P S L kt 0) := HI.out.pop
      have HM0 : Hid (cntF S n + L.length + 1 ≤ gk) := by show _ ≤ _; omega
      obtain ⟨ad2, c2, ca0, HC⟩ := HAC.out kt hk
      have ca1 := cell_nx ca0 HBw.out
      have HC2 : Hid (∀ j, j < (P kt).length → ∃ g o, ad2 = some ⟨g, o, none⟩ ∧ w.cell? ⟨g, o + j, none⟩ = some (.int .i64 ((P kt).getD j 0))) := HC
      have hml0 := HLP.out kt hk
      obtain ⟨ml, hml⟩ : ∃ ml, (P kt).length = ml := ⟨_, rfl⟩
      have HML : Hid ((P kt).length = ml) := hml
      rw [hml] at ca1 hml0
      clear HL hgk t0 t1 HI HC ca0 hml
      by_cases ec : cp = 1
      · subst ec
        obtain rfl : L = [] := List.eq_nil_of_length_eq_zero (by omega)
        have QQ : Hid (Que (w.heap.size + 1) wr (.slice (some ⟨g, off, none⟩) 0 0) []) := Q2 (by omega)
        clear Q1 Q2 hcp m0 m1 m2 m3
        simp only [List.length_nil, Nat.zero_add]
        go_wp2
        clear ca1 ct
        go_loopw [10, 29] (fun vv i wx => ∃ (j : Nat) (L : List Int) (S : Nat → Bool) (u : Value), j ≤ ml ∧ i = .int .i64 j ∧ u = vv ∧ Hid (Que (w.heap.size + 1) wx u L) ∧ Hid (Own wx w.heap.size 600 (fun i => .bool (S i))) ∧ Hid (BI c r P S L kt j) ∧ Hid (Below w.heap.size w wx) ∧ Hid (cntF S n + L.length + 1 ≤ gk)) (fun _ i _ => ml - (intOf i).toNat)
        case atStart => exact ⟨0, _, S, _, Nat.zero_le _, rfl, rfl, QQ, HS, BI0, HBw, HM0⟩
        case round =>
          obtain ⟨j, L, S, u, hj, rfl, rfl, QQ, HS, BJ, HBw, HM⟩ := hrel
          clear BI0 HM0
          by_cases hjm : j < ml
          · have j1 : (j : Int) < (ml : Int) := by omega
            have j0 : (0 : Int) ≤ (j : Int) := by omega
            have hjl : j < (P kt).length := by rw [HML.out]; exact hjm
            obtain ⟨g2, o2, rfl, ct⟩ := HC2.out j hjl
            have ct := cell_nx ct HBw.out
            obtain ⟨t0, t1, ts⟩ := (HP.out kt hk ((P kt).getD j 0)).1 (by simp [List.getD, hjl])
            obtain ⟨x, hx⟩ : ∃ x : Nat, (P kt).getD j 0 = (x : Int) := ⟨((P kt).getD j 0).toNat, by omega⟩
            have HX : Hid ((P kt).getD j 0 = (x : Int)) := hx
            rw [hx] at ct t0 t1 ts
            rw [Int.toNat_natCast] at ts
            have HTS : Hid ((kt : Int) ∈ sucL (c.O x) (c.A x) (c.B x) (c.C x) x) := ts
            have hxn : x < n := by omega
            have hxc : x < c.n := by rw [HN.out]; exact hxn
            have hktc : kt < c.n := by rw [HN.out]; exact hk
            have x6 : (x : Int) < 600 := by omega
            have x0 : (0 : Int) ≤ (x : Int) := by omega
            have x7 : (x : Int) < (n : Int) := by omega
            have cs := HS.out.cell x (by omega)
            have fs := HS.out.free x
            have hput : ∀ i, i < 600 → Value.bool (putB S x i) = if i = x then .bool true else .bool (S i) := fun i hi => by
              unfold putB
              by_cases e : i = x
              · rw [if_pos e, if_pos e]
              · rw [if_neg e, if_neg e]
            have HPut := Hid.mk hput
            have HCL : Hid (cntF (putB S x) n ≤ cntF S n) := cnt_le2 S x n hxn
            clear t0 t1 ts hx hput
            cases hS : S x
            · rw [hS] at cs
              have HSx : Hid (S x = false) := hS
              have HCP : Hid (cntF (putB S x) n + 1 = cntF S n) := cnt_put S x hS n hxn
              have RK := HR.out.next HBw.out
              have c0 := RK.c0 x hxn
              have c1 := RK.c1 x hxn
              have c2 := RK.c2 x hxn
              have c3 := RK.c3 x hxn
              have c4 := RK.c4 x hxn
              have c5 := RK.c5 x hxn
              have h68 := writesTo68 (c.O x) (c.D x) (c.A x) (c.B x) (c.C x) (c.X x) (r : Int) wr
              have HW : Hid ((nmd (c.O x) 0 && (c.D x == (r : Int))) = true ↔ c.wr x r) := by
                show _ ↔ _
                rw [Bool.and_eq_true, beq_iff_eq]
                unfold Cd.wr
                constructor
                · rintro ⟨h1, h2⟩
                  exact ⟨h1, by omega⟩
                · rintro ⟨h1, h2⟩
                  have := HK.out.wr x hxc h1
                  exact ⟨h1, by omega⟩
              generalize (nmd (c.O x) 0 && (c.D x == (r : Int))) = wv at h68 HW
              clear RK hS
              cases wv
              · have HWN : Hid (¬ c.wr x r) := fun h => by have := HW.out.2 h; cases this
                go_wp2_with (first | (go_at_call 90; refine h68.mono ?_; rintro e w3 ⟨rfl, B3⟩; (obtain ⟨w4, hw4⟩ : ∃ w4, w3.alloc (.cells #[.int .i64 (x : Int)] 3) = w4 := ⟨_, rfl⟩); (have B4 : Below w3.heap.size w3 w4 := by rw [← hw4]; exact (Below.refl _ _).alloc (Nat.le_refl _) _); (have R4 : IRow w4 (.slice (some ⟨w3.heap.size, 0, none⟩) 1 1) [(x : Int)] := by rw [← hw4]; exact Or.inr ⟨_, 1, rfl, Nat.le_refl _, ints_new w3 [(x : Int)]⟩)) | (at_builtin; refine wpList_append_que rfl _ _ 24 rfl i3 Tryz.underlying24 hi3 hz30 hz31 hz32 (w.heap.size + 1) _ _ L [(x : Int)] rfl ((QQ.out.next B3).next B4) rfl R4 ?_ ?_ ?_))
                · have := HS.out.hi; have := B3.size; have := B4.size; omega
                · have := HM.out; have := hg5; simp only [List.length_cons, List.length_nil]; omega
                intro v5 w5 Q5 G5
                clear hw4
                have S5 : Own w5 w.heap.size 600 (fun i => .bool (S i)) := own_grown ((HS.out.next B3).next B4) G5 (by obtain ⟨_, _, _, hv, hq, _⟩ := QQ.out; rw [hv]; intro e; simp [Value.ownBlock] at e; omega)
                have B5 : Below w.heap.size w w5 := ((HBw.out.trans (B3.mono HBw.out.size)).trans (B4.mono (by have := HBw.out.size; have := B3.size; omega))).grown G5 (by have := HBw.out.size; have := B3.size; have := B4.size; omega) (fun q hq => by obtain ⟨_, _, _, hv, hq2, _⟩ := QQ.out; rw [hv] at hq; simp [Value.ownBlock] at hq; omega)
                have K5 : Only w.heap.size w5 (w5.setCell ⟨w.heap.size, x, none⟩ (.bool true)) := (Only.refl _ _).setCell _ _
                have cs5 := S5.cell x (by omega)
                have fs5 := S5.free x
                have S6 : Hid (Own (w5.setCell ⟨w.heap.size, x, none⟩ (.bool true)) w.heap.size 600 (fun i => .bool (putB S x i))) := S5.set x _ (by omega) HPut.out
                have Q6 : Hid (Que (w.heap.size + 1) (w5.setCell ⟨w.heap.size, x, none⟩ (.bool true)) v5 (L ++ [(x : Int)])) := Q5.only K5 (by omega)
                have B6 : Hid (Below w.heap.size w (w5.setCell ⟨w.heap.size, x, none⟩ (.bool true))) := B5.setCell (p := ⟨w.heap.size, x, none⟩) (Nat.le_refl _) _
                have BN : Hid (BI c r P (putB S x) (L ++ [(x : Int)]) kt (j + 1)) := BJ.out.step hktc hjl HX.out hxc HTS.out (Or.inl ⟨HSx.out, HWN.out, rfl⟩)
                have HMN : Hid (cntF (putB S x) n + (L ++ [(x : Int)]).length + 1 ≤ gk) := by show _ ≤ _; rw [List.length_append]; have := HCP.out; have := HM.out; simp only [List.length_cons, List.length_nil]; omega
                rw [HSx.out] at cs5
                clear QQ HS BJ HBw HM S5 B5 K5 Q5 G5 R4 B3 B4 cs fs
                go_wp2
                go_roundw
                case rel => exact ⟨j + 1, _, _, _, by omega, by go_num, rfl, Q6, S6, BN, B6, HMN⟩
                case measure => simp [intOf]; omega
              · have HWN : Hid (c.wr x r) := HW.out.1 rfl
                have BN : Hid (BI c r P (putB S x) L kt (j + 1)) := BJ.out.step hktc hjl HX.out hxc HTS.out (Or.inr ⟨Or.inr HWN.out, rfl⟩)
                have HMN : Hid (cntF (putB S x) n + L.length + 1 ≤ gk) := by show _ ≤ _; have := HCL.out; have := HM.out; omega
                clear BJ HM
                go_wp2_with (go_at_call 90; refine h68.mono ?_; rintro e w3 ⟨rfl, B3⟩; (have cs3 := (HS.out.next B3).cell x (by omega)); (have fs3 := (HS.out.next B3).free x))
                have K5 : Only w.heap.size w3 (w3.setCell ⟨w.heap.size, x, none⟩ (.bool true)) := (Only.refl _ _).setCell _ _
                have S6 : Hid (Own (w3.setCell ⟨w.heap.size, x, none⟩ (.bool true)) w.heap.size 600 (fun i => .bool (putB S x i))) := (HS.out.next B3).set x _ (by omega) HPut.out
                have Q6 : Hid (Que (w.heap.size + 1) (w3.setCell ⟨w.heap.size, x, none⟩ (.bool true)) u L) := (QQ.out.next B3).only K5 (by omega)
                have B6 : Hid (Below w.heap.size w (w3.setCell ⟨w.heap.size, x, none⟩ (.bool true))) := (HBw.out.trans (B3.mono HBw.out.size)).setCell (p := ⟨w.heap.size, x, none⟩) (Nat.le_refl _) _
                clear QQ HS HBw K5 B3
                go_roundw
                case rel => exact ⟨j + 1, _, _, _, by omega, by go_num, rfl, Q6, S6, BN, B6, HMN⟩
                case measure => simp [intOf]; omega
            · rw [hS] at cs
              have BN : Hid (BI c r P (putB S x) L kt (j + 1)) := BJ.out.step hktc hjl HX.out hxc HTS.out (Or.inr ⟨Or.inl hS, rfl⟩)
              have HMN : Hid (cntF (putB S x) n + L.length + 1 ≤ gk) := by show _ ≤ _; have := HCL.out; have := HM.out; omega
              have K5 : Only w.heap.size wr (wr.setCell ⟨w.heap.size, x, none⟩ (.bool true)) := (Only.refl _ _).setCell _ _
              have S6 : Hid (Own (wr.setCell ⟨w.heap.size, x, none⟩ (.bool true)) w.heap.size 600 (fun i => .bool (putB S x i))) := HS.out.set x _ (by omega) HPut.out
              have Q6 : Hid (Que (w.heap.size + 1) (wr.setCell ⟨w.heap.size, x, none⟩ (.bool true)) u L) := QQ.out.only K5 (by omega)
              have B6 : Hid (Below w.heap.size w (wr.setCell ⟨w.heap.size, x, none⟩ (.bool true))) := HBw.out.setCell (p := ⟨w.heap.size, x, none⟩) (Nat.le_refl _) _
              clear BJ HM QQ HS HBw K5 hS
              go_wp2
              go_roundw
              case rel => exact ⟨j + 1, _, _, _, by omega, by go_num, rfl, Q6, S6, BN, B6, HMN⟩
              case measure => simp [intOf]; omega
          · obtain rfl : ml = j := by omega
            have j1 : ¬ (ml : Int) < (ml : Int) := by omega
            have BE : Hid (BO c r P S L) := by
              have := BJ.out
              rw [← HML.out] at this
              exact this.full
            clear BJ
            go_wp2
            go_roundg (cntF S n + L.length)
            case measure => have := HM.out; omega
            case rel => exact ⟨L, S, _, rfl, rfl, Or.inr QQ.out, HS, BE, HBw, by have := HM.out; omega⟩
      · have QQ : Hid (Que (w.heap.size + 1) wr (.slice (some ⟨g, off + 1, none⟩) L.length (cp - 1)) L) := Q1
        have e1 : ¬ cp = 1 := ec
        clear Q1 Q2
        go_wp2
        clear ca1 ct
        go_loopw [10, 29] (fun vv i wx => ∃ (j : Nat) (L : List Int) (S : Nat → Bool) (u : Value), j ≤ ml ∧ i = .int .i64 j ∧ u = vv ∧ Hid (Que (w.heap.size + 1) wx u L) ∧ Hid (Own wx w.heap.size 600 (fun i => .bool (S i))) ∧ Hid (BI c r P S L kt j) ∧ Hid (Below w.heap.size w wx) ∧ Hid (cntF S n + L.length + 1 ≤ gk)) (fun _ i _ => ml - (intOf i).toNat)
        case atStart => exact ⟨0, _, S, _, Nat.zero_le _, rfl, rfl, QQ, HS, BI0, HBw, HM0⟩
        case round =>
          obtain ⟨j, L, S, u, hj, rfl, rfl, QQ, HS, BJ, HBw, HM⟩ := hrel
          clear BI0 HM0
          by_cases hjm : j < ml
          · have j1 : (j : Int) < (ml : Int) := by omega
            have j0 : (0 : Int) ≤ (j : Int) := by omega
            have hjl : j < (P kt).length := by rw [HML.out]; exact hjm
            obtain ⟨g2, o2, rfl, ct⟩ := HC2.out j hjl
            have ct := cell_nx ct HBw.out
            obtain ⟨t0, t1, ts⟩ := (HP.out kt hk ((P kt).getD j 0)).1 (by simp [List.getD, hjl])
            obtain ⟨x, hx⟩ : ∃ x : Nat, (P kt).getD j 0 = (x : Int) := ⟨((P kt).getD j 0).toNat, by omega⟩
            have HX : Hid ((P kt).getD j 0 = (x : Int)) := hx
            rw [hx] at ct t0 t1 ts
            rw [Int.toNat_natCast] at ts
            have HTS : Hid ((kt : Int) ∈ sucL (c.O x) (c.A x) (c.B x) (c.C x) x) := ts
            have hxn : x < n := by omega
            have hxc : x < c.n := by rw [HN.out]; exact hxn
            have hktc : kt < c.n := by rw [HN.out]; exact hk
            have x6 : (x : Int) < 600 := by omega
            have x0 : (0 : Int) ≤ (x : Int) := by omega
            have x7 : (x : Int) < (n : Int) := by omega
            have cs := HS.out.cell x (by omega)
            have fs := HS.out.free x
            have hput : ∀ i, i < 600 → Value.bool (putB S x i) = if i = x then .bool true else .bool (S i) := fun i hi => by
              unfold putB
              by_cases e : i = x
              · rw [if_pos e, if_pos e]
              · rw [if_neg e, if_neg e]
            have HPut := Hid.mk hput
            have HCL : Hid (cntF (putB S x) n ≤ cntF S n) := cnt_le2 S x n hxn
            clear t0 t1 ts hx hput
            cases hS : S x
            · rw [hS] at cs
              have HSx : Hid (S x = false) := hS
              have HCP : Hid (cntF (putB S x) n + 1 = cntF S n) := cnt_put S x hS n hxn
              have RK := HR.out.next HBw.out
              have c0 := RK.c0 x hxn
              have c1 := RK.c1 x hxn
              have c2 := RK.c2 x hxn
              have c3 := RK.c3 x hxn
              have c4 := RK.c4 x hxn
              have c5 := RK.c5 x hxn
              have h68 := writesTo68 (c.O x) (c.D x) (c.A x) (c.B x) (c.C x) (c.X x) (r : Int) wr
              have HW : Hid ((nmd (c.O x) 0 && (c.D x == (r : Int))) = true ↔ c.wr x r) := by
                show _ ↔ _
                rw [Bool.and_eq_true, beq_iff_eq]
                unfold Cd.wr
                constructor
                · rintro ⟨h1, h2⟩
                  exact ⟨h1, by omega⟩
                · rintro ⟨h1, h2⟩
                  have := HK.out.wr x hxc h1
                  exact ⟨h1, by omega⟩
              generalize (nmd (c.O x) 0 && (c.D x == (r : Int))) = wv at h68 HW
              clear RK hS
              cases wv
              · have HWN : Hid (¬ c.wr x r) := fun h => by have := HW.out.2 h; cases this
                go_wp2_with (first | (go_at_call 90; refine h68.mono ?_; rintro e w3 ⟨rfl, B3⟩; (obtain ⟨w4, hw4⟩ : ∃ w4, w3.alloc (.cells #[.int .i64 (x : Int)] 3) = w4 := ⟨_, rfl⟩); (have B4 : Below w3.heap.size w3 w4 := by rw [← hw4]; exact (Below.refl _ _).alloc (Nat.le_refl _) _); (have R4 : IRow w4 (.slice (some ⟨w3.heap.size, 0, none⟩) 1 1) [(x : Int)] := by rw [← hw4]; exact Or.inr ⟨_, 1, rfl, Nat.le_refl _, ints_new w3 [(x : Int)]⟩)) | (at_builtin; refine wpList_append_que rfl _ _ 24 rfl i3 Tryz.underlying24 hi3 hz30 hz31 hz32 (w.heap.size + 1) _ _ L [(x : Int)] rfl ((QQ.out.next B3).next B4) rfl R4 ?_ ?_ ?_))
                · have := HS.out.hi; have := B3.size; have := B4.size; omega
                · have := HM.out; have := hg5; simp only [List.length_cons, List.length_nil]; omega
                intro v5 w5 Q5 G5
                clear hw4
                have S5 : Own w5 w.heap.size 600 (fun i => .bool (S i)) := own_grown ((HS.out.next B3).next B4) G5 (by obtain ⟨_, _, _, hv, hq, _⟩ := QQ.out; rw [hv]; intro e; simp [Value.ownBlock] at e; omega)
                have B5 : Below w.heap.size w w5 := ((HBw.out.trans (B3.mono HBw.out.size)).trans (B4.mono (by have := HBw.out.size; have := B3.size; omega))).grown G5 (by have := HBw.out.size; have := B3.size; have := B4.size; omega) (fun q hq => by obtain ⟨_, _, _, hv, hq2, _⟩ := QQ.out; rw [hv] at hq; simp [Value.ownBlock] at hq; omega)
                have K5 : Only w.heap.size w5 (w5.setCell ⟨w.heap.size, x, none⟩ (.bool true)) := (Only.refl _ _).setCell _ _
                have cs5 := S5.cell x (by omega)
                have fs5 := S5.free x
                have S6 : Hid (Own (w5.setCell ⟨w.heap.size, x, none⟩ (.bool true)) w.heap.size 600 (fun i => .bool (putB S x i))) := S5.set x _ (by omega) HPut.out
                have Q6 : Hid (Que (w.heap.size + 1) (w5.setCell ⟨w.heap.size, x, none⟩ (.bool true)) v5 (L ++ [(x : Int)])) := Q5.only K5 (by omega)
                have B6 : Hid (Below w.heap.size w (w5.setCell ⟨w.heap.size, x, none⟩ (.bool true))) := B5.setCell (p := ⟨w.heap.size, x, none⟩) (Nat.le_refl _) _
                have BN : Hid (BI c r P (putB S x) (L ++ [(x : Int)]) kt (j + 1)) := BJ.out.step hktc hjl HX.out hxc HTS.out (Or.inl ⟨HSx.out, HWN.out, rfl⟩)
                have HMN : Hid (cntF (putB S x) n + (L ++ [(x : Int)]).length + 1 ≤ gk) := by show _ ≤ _; rw [List.length_append]; have := HCP.out; have := HM.out; simp only [List.length_cons, List.length_nil]; omega
                rw [HSx.out] at cs5
                clear QQ HS BJ HBw HM S5 B5 K5 Q5 G5 R4 B3 B4 cs fs
                go_wp2
                go_roundw
                case rel => exact ⟨j + 1, _, _, _, by omega, by go_num, rfl, Q6, S6, BN, B6, HMN⟩
                case measure => simp [intOf]; omega
              · have HWN : Hid (c.wr x r) := HW.out.1 rfl
                have BN : Hid (BI c r P (putB S x) L kt (j + 1)) := BJ.out.step hktc hjl HX.out hxc HTS.out (Or.inr ⟨Or.inr HWN.out, rfl⟩)
                have HMN : Hid (cntF (putB S x) n + L.length + 1 ≤ gk) := by show _ ≤ _; have := HCL.out; have := HM.out; omega
                clear BJ HM
                go_wp2_with (go_at_call 90; refine h68.mono ?_; rintro e w3 ⟨rfl, B3⟩; (have cs3 := (HS.out.next B3).cell x (by omega)); (have fs3 := (HS.out.next B3).free x))
                have K5 : Only w.heap.size w3 (w3.setCell ⟨w.heap.size, x, none⟩ (.bool true)) := (Only.refl _ _).setCell _ _
                have S6 : Hid (Own (w3.setCell ⟨w.heap.size, x, none⟩ (.bool true)) w.heap.size 600 (fun i => .bool (putB S x i))) := (HS.out.next B3).set x _ (by omega) HPut.out
                have Q6 : Hid (Que (w.heap.size + 1) (w3.setCell ⟨w.heap.size, x, none⟩ (.bool true)) u L) := (QQ.out.next B3).only K5 (by omega)
                have B6 : Hid (Below w.heap.size w (w3.setCell ⟨w.heap.size, x, none⟩ (.bool true))) := (HBw.out.trans (B3.mono HBw.out.size)).setCell (p := ⟨w.heap.size, x, none⟩) (Nat.le_refl _) _
                clear QQ HS HBw K5 B3
                go_roundw
                case rel => exact ⟨j + 1, _, _, _, by omega, by go_num, rfl, Q6, S6, BN, B6, HMN⟩
                case measure => simp [intOf]; omega
            · rw [hS] at cs
              have BN : Hid (BI c r P (putB S x) L kt (j + 1)) := BJ.out.step hktc hjl HX.out hxc HTS.out (Or.inr ⟨Or.inl hS, rfl⟩)
              have HMN : Hid (cntF (putB S x) n + L.length + 1 ≤ gk) := by show _ ≤ _; have := HCL.out; have := HM.out; omega
              have K5 : Only w.heap.size wr (wr.setCell ⟨w.heap.size, x, none⟩ (.bool true)) := (Only.refl _ _).setCell _ _
              have S6 : Hid (Own (wr.setCell ⟨w.heap.size, x, none⟩ (.bool true)) w.heap.size 600 (fun i => .bool (putB S x i))) := HS.out.set x _ (by omega) HPut.out
              have Q6 : Hid (Que (w.heap.size + 1) (wr.setCell ⟨w.heap.size, x, none⟩ (.bool true)) u L) := QQ.out.only K5 (by omega)
              have B6 : Hid (Below w.heap.size w (wr.setCell ⟨w.heap.size, x, none⟩ (.bool true))) := HBw.out.setCell (p := ⟨w.heap.size, x, none⟩) (Nat.le_refl _) _
              clear BJ HM QQ HS HBw K5 hS
              go_wp2
              go_roundw
              case rel => exact ⟨j + 1, _, _, _, by omega, by go_num, rfl, Q6, S6, BN, B6, HMN⟩
              case measure => simp [intOf]; omega
          · obtain rfl : ml = j := by omega
            have j1 : ¬ (ml : Int) < (ml : Int) := by omega
            have BE : Hid (BO c r P S L) := by
              have := BJ.out
              rw [← HML.out] at this
              exact this.full
            clear BJ
            go_wp2
            go_roundg (cntF S n + L.length)
            case measure => have := HM.out; omega
            case rel => exact ⟨L, S, _, rfl, rfl, Or.inr QQ.out, HS, BE, HBw, by have := HM.out; omega⟩
end Go.Proofs.YtmeokhppaekhpaaGreatDoor
namespace Go.Proofs.YtmeokhppaekhpaaGreatDoor
open Go.ChangeShapes Go.WideShapes Go.ChangeAt Go.RowKit
set_option linter.unusedVariables false
def Tgs (O A B C : Nat → Int) (n : Nat) : Prop := ∀ k, k < n → (O k = 8 → 0 ≤ A k ∧ A k < n) ∧ (O k = 9 → (0 ≤ B k ∧ B k < n) ∧ 0 ≤ C k ∧ C k < n)
theorem okF_at {o d a b c x n : Int} (h : okF o d a b c x n 5 = true) (f : Nat) (hf : f < 5) : inB (val d a b c x f) (gv o f n) = true := by
  cases hv : inB (val d a b c x f) (gv o f n)
  · rw [okF_stop o d a b c x n f hv 5 hf] at h; cases h
  · rfl
theorem tgs_of {O D A B C X : Nat → Int} {n : Nat} (h : goodC O D A B C X n = true) : Tgs O A B C n := by
  unfold goodC at h
  simp only [Bool.and_eq_true, decide_eq_true_eq] at h
  obtain ⟨⟨h1, h2⟩, h3, _⟩ := h
  intro k hk
  have hg := allB_at _ n k h3 hk
  have hf : okF (O k) (D k) (A k) (B k) (C k) (X k) (n : Int) 5 = true := by
    unfold gdI goodI at hg
    rw [Bool.and_eq_true] at hg
    exact hg.1
  have f1 := okF_at hf 1 (by omega)
  have f2 := okF_at hf 2 (by omega)
  have f3 := okF_at hf 3 (by omega)
  refine ⟨fun h8 => ?_, fun h9 => ?_⟩
  · rw [h8] at f1
    simp [gv, nmd, isN, val, inB] at f1
    omega
  · rw [h9] at f2 f3
    simp [gv, nmd, isN, val, inB] at f2 f3
    omega
theorem sucs_of {O D A B C X : Nat → Int} {n : Nat} (h : goodC O D A B C X n = true) : Sucs O A B C n := by
  have hT := tgs_of h
  have hl : lastB (O (n - 1)) = true := by
    unfold goodC at h
    simp only [Bool.and_eq_true] at h
    exact h.2.2
  have hn : 1 ≤ n := (goodC_bds h).2.1
  intro k hk t ht
  unfold sucL tgL at ht
  rcases List.mem_append.1 ht with h1 | h1
  · split at h1
    · rename_i e
      have := (hT k hk).1 e
      simp at h1
      subst h1
      exact this
    · split at h1
      · rename_i e
        have := (hT k hk).2 e
        simp at h1
        rcases h1 with rfl | rfl
        · exact this.1
        · exact this.2
      · cases h1
  · split at h1
    · cases h1
    · rename_i e
      simp at h1
      subst h1
      refine ⟨by omega, ?_⟩
      by_cases ek : k = n - 1
      · subst ek
        unfold lastB at hl
        simp at hl
        omega
      · omega
theorem okF_of {O D A B C X : Nat → Int} {n : Nat} (h : goodC O D A B C X n = true) (k : Nat) (hk : k < n) : okF (O k) (D k) (A k) (B k) (C k) (X k) (n : Int) 5 = true := by
  unfold goodC at h
  simp only [Bool.and_eq_true, decide_eq_true_eq] at h
  obtain ⟨⟨h1, h2⟩, h3, _⟩ := h
  have hg := allB_at _ n k h3 hk
  unfold gdI goodI at hg
  rw [Bool.and_eq_true] at hg
  exact hg.1
theorem wr_bnd {o d a b c x n : Int} (h : okF o d a b c x n 5 = true) (hw : nmd o 0 = true) : 0 ≤ d ∧ d < 400 := by
  have f0 := okF_at h 0 (by omega)
  unfold gv at f0
  rw [hw] at f0
  simp [isN, val, inB] at f0
  omega
theorem op_bnd {o d a b c x n : Int} (h : okF o d a b c x n 5 = true) : ∀ y, y ∈ opsL o a b c x → 0 ≤ y ∧ y < 400 := by
  have f1 := okF_at h 1 (by omega)
  have f2 := okF_at h 2 (by omega)
  have f3 := okF_at h 3 (by omega)
  intro y hy
  unfold opsL at hy
  split at hy
  · rename_i e
    obtain rfl : y = a := by simpa using hy
    rcases e with e | e | e | e | e <;> subst e <;> simp [gv, nmd, isN, val, inB] at f1 <;> omega
  · split at hy
    · rename_i e
      have : y = a ∨ y = b := by simpa using hy
      rcases e with e | e <;> subst e <;> simp [gv, nmd, isN, val, inB] at f1 f2 <;> omega
    · split at hy
      · rename_i e
        have hm := List.mem_of_mem_take hy
        have : y = a ∨ y = b ∨ y = c := by simpa using hm
        subst e
        simp [gv, nmd, isN, val, inB] at f1 f2 f3
        omega
      · cases hy
theorem lds_ge (o d n : Int) : n ≤ lds o d n ∧ (nmd o 0 = true → d + 1 ≤ lds o d n) := by
  unfold lds
  have := up_ge n d
  split
  · exact ⟨this.1, fun _ => this.2⟩
  · rename_i h
    exact ⟨Int.le_refl _, fun q => absurd q h⟩
theorem rgn_step (O D A B C X : Nat → Int) (k : Nat) : rgn O D A B C X k ≤ rgn O D A B C X (k + 1) ∧ (nmd (O k) 0 = true → D k + 1 ≤ rgn O D A B C X (k + 1)) ∧ ∀ y, y ∈ opsL (O k) (A k) (B k) (C k) (X k) → y + 1 ≤ rgn O D A B C X (k + 1) := by
  have e : rgn O D A B C X (k + 1) = ups (lds (O k) (D k) (rgn O D A B C X k)) (opsL (O k) (A k) (B k) (C k) (X k)) := rfl
  have l := lds_ge (O k) (D k) (rgn O D A B C X k)
  have g := ups_ge (opsL (O k) (A k) (B k) (C k) (X k)) (lds (O k) (D k) (rgn O D A B C X k))
  rw [e]
  exact ⟨by omega, fun q => by have := l.2 q; omega, g.2⟩
theorem rgn_mono (O D A B C X : Nat → Int) {k m : Nat} (h : k ≤ m) : rgn O D A B C X k ≤ rgn O D A B C X m := by
  induction m with
  | zero => obtain rfl : k = 0 := by omega
            exact Int.le_refl _
  | succ m ih =>
    by_cases e : k = m + 1
    · subst e; exact Int.le_refl _
    · have := ih (by omega)
      have := (rgn_step O D A B C X m).1
      omega
theorem rgn_400 {O D A B C X : Nat → Int} {n : Nat} (h : goodC O D A B C X n = true) : ∀ k, k ≤ n → 0 ≤ rgn O D A B C X k ∧ rgn O D A B C X k ≤ 400
  | 0, _ => by unfold rgn; omega
  | k + 1, hk => by
    have ih := rgn_400 h k (by omega)
    have e : rgn O D A B C X (k + 1) = ups (lds (O k) (D k) (rgn O D A B C X k)) (opsL (O k) (A k) (B k) (C k) (X k)) := rfl
    have hf := okF_of h k (by omega)
    have l := lds_ge (O k) (D k) (rgn O D A B C X k)
    have l2 : lds (O k) (D k) (rgn O D A B C X k) ≤ 400 := by
      unfold lds up
      split
      · rename_i q
        have := wr_bnd hf q
        split <;> omega
      · omega
    have g := ups_ge (opsL (O k) (A k) (B k) (C k) (X k)) (lds (O k) (D k) (rgn O D A B C X k))
    have b := ups_bnd (l := opsL (O k) (A k) (B k) (C k) (X k)) l2 (fun y hy => by have := op_bnd hf y hy; omega)
    rw [e]
    omega
/-- How many registers good code has. -/
def Cd.R (c : Cd) : Nat := (rgn c.O c.D c.A c.B c.C c.X c.n).toNat
theorem lvok_of {c : Cd} (h : goodC c.O c.D c.A c.B c.C c.X c.n = true) (hX : Wds c.X c.n) : LvOk c c.R ∧ (∀ k, k < c.n → nmd (c.O k) 0 = true → c.D k < c.R) ∧ (c.R : Int) = rgn c.O c.D c.A c.B c.C c.X c.n := by
  obtain ⟨h6, h1, hb⟩ := goodC_bds h
  have r4 := rgn_400 h c.n (Nat.le_refl _)
  have hr : (c.R : Int) = rgn c.O c.D c.A c.B c.C c.X c.n := by unfold Cd.R; omega
  refine ⟨⟨h1, h6, by omega, fun k hk => (hb k hk).1, good_call h, fun k hk => hX k hk, fun k hk t ht => ?_, fun k hk r hr' => ?_, fun k hk hw => (wr_bnd (okF_of h k hk) hw).1⟩, fun k hk hw => ?_, hr⟩
  · have hs := sucs_of h k hk t (by unfold sucL; exact List.mem_append.2 (Or.inl ht))
    exact hs
  · have h1 := op_bnd (okF_of h k hk) r hr'
    have h2 := (rgn_step c.O c.D c.A c.B c.C c.X k).2.2 r hr'
    have h3 := rgn_mono c.O c.D c.A c.B c.C c.X (show k + 1 ≤ c.n by omega)
    omega
  · have h2 := (rgn_step c.O c.D c.A c.B c.C c.X k).2.1 hw
    have h3 := rgn_mono c.O c.D c.A c.B c.C c.X (show k + 1 ≤ c.n by omega)
    omega
theorem whL_len2 (Z : Nat → Bool) : ∀ n, (whL Z n).length ≤ n := whL_len Z
theorem whL_count (Z : Nat → Bool) (k : Nat) : ∀ n, (whL Z n).count (k : Int) = if k < n ∧ Z k = true then 1 else 0
  | 0 => by simp [whL]
  | n + 1 => by
    rw [whL, List.count_append, whL_count Z k n]
    by_cases e : k = n
    · subst e
      rw [if_neg (by omega)]
      cases h : Z k
      · simp
      · simp
    · have : List.count (k : Int) (if Z n then [(n : Int)] else []) = 0 := by
        rw [List.count_eq_zero]
        split
        · simp; omega
        · simp
      rw [this, Nat.add_zero]
      by_cases q : k < n ∧ Z k = true
      · rw [if_pos q, if_pos ⟨by omega, q.2⟩]
      · rw [if_neg q, if_neg (by intro p; exact q ⟨by omega, p.2⟩)]
/-- What was found for registers, told for an instruction. -/
theorem col_live (F : Nat → Nat → Bool) (n k : Nat) (hk : k < n) : ∀ R, colL (fun r => whL (fun i => F i r) n) R k = lsF (F k) R
  | 0 => rfl
  | R + 1 => by
    rw [colL, lsF, col_live F n k hk R, whL_count]
    congr 1
    cases h : F k R
    · rw [if_neg (by simp)]
      simp
    · rw [if_pos ⟨hk, rfl⟩]
      simp
end Go.Proofs.YtmeokhppaekhpaaGreatDoor
