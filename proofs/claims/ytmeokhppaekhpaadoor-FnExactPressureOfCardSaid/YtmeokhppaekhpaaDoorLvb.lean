/- Behind which instructions a register lives: the search from those that read it upwards, without a program; the program's livesBehind. -/
import Derived.Test.YtmeokhppaekhpaaDoorTrn
import Derived.Test.YtmeokhppaekhpaaDoorQue
import Derived.Test.YtmeokhppaekhpaaDoorRgi
import Derived.Test.YtmeokhppaekhpaaDoorRci
namespace Go.Proofs.YtmeokhppaekhpaaDoor
open Go.ChangeShapes Go.WideShapes Go.ChangeAt Go.RowKit
set_option linter.unusedVariables false
/-- It is known that a register lives ahead of an instruction. -/
def Kn (c : Cd) (r : Nat) (S : Nat → Bool) (t : Nat) : Prop := (r : Int) ∈ opsL (c.O t) (c.A t) (c.B t) (c.C t) (c.X t) ∨ (S t = true ∧ ¬ c.wr t r)
/-- What holds while it is looked for: S what is found, L what is still to be looked at, P those that come ahead; of t0 the first j were looked at. -/
structure BI (c : Cd) (r : Nat) (P : Nat → List Int) (S : Nat → Bool) (L : List Int) (t0 : Nat) (j : Nat) : Prop where
  sound : ∀ k, S k = true → k < c.n ∧ LB c k r
  queue : ∀ t, t ∈ L → 0 ≤ t ∧ t < c.n ∧ LA c t.toNat r
  closed : ∀ t : Nat, t < c.n → Kn c r S t → (t : Int) ∈ L ∨ (∀ k : Nat, (k : Int) ∈ P t → S k = true) ∨ (t = t0 ∧ ∀ k : Nat, (k : Int) ∈ (P t).take j → S k = true)
  cur : 0 < c.n → (t0 < c.n → LA c t0 r)
/-- .. between two of them. -/
structure BO (c : Cd) (r : Nat) (P : Nat → List Int) (S : Nat → Bool) (L : List Int) : Prop where
  sound : ∀ k, S k = true → k < c.n ∧ LB c k r
  queue : ∀ t, t ∈ L → 0 ≤ t ∧ t < c.n ∧ LA c t.toNat r
  closed : ∀ t : Nat, t < c.n → Kn c r S t → (t : Int) ∈ L ∨ (∀ k : Nat, (k : Int) ∈ P t → S k = true)
theorem bo_begin (c : Cd) (r : Nat) (P : Nat → List Int) (L : List Int) (h : ∀ t, t ∈ L ↔ 0 ≤ t ∧ t < c.n ∧ (r : Int) ∈ opsL (c.O t.toNat) (c.A t.toNat) (c.B t.toNat) (c.C t.toNat) (c.X t.toNat)) : BO c r P (fun _ => false) L :=
  ⟨fun k hk => (by cases hk), fun t ht => by
    obtain ⟨h0, h1, h2⟩ := (h t).1 ht
    exact ⟨h0, h1, .read _ _ (by omega) h2⟩, fun t ht hk => by
    rcases hk with hk | hk
    · exact Or.inl ((h t).2 ⟨by omega, by omega, by rw [Int.toNat_natCast]; exact hk⟩)
    · cases hk.1⟩
theorem BO.pop {c : Cd} {r : Nat} {P : Nat → List Int} {S : Nat → Bool} {L : List Int} {t0 : Nat} (h : BO c r P S ((t0 : Int) :: L)) : BI c r P S L t0 0 :=
  ⟨h.sound, fun t ht => h.queue t (by simp [ht]), fun t ht hk => by
    rcases h.closed t ht hk with q | q
    · rcases List.mem_cons.1 q with q | q
      · exact Or.inr (Or.inr ⟨by omega, fun k hk => by simp at hk⟩)
      · exact Or.inl q
    · exact Or.inr (Or.inl q), fun _ _ => by have := (h.queue t0 (by simp)).2.2; rwa [Int.toNat_natCast] at this⟩
theorem BI.full {c : Cd} {r : Nat} {P : Nat → List Int} {S : Nat → Bool} {L : List Int} {t0 : Nat} (h : BI c r P S L t0 (P t0).length) : BO c r P S L :=
  ⟨h.sound, h.queue, fun t ht hk => by
    rcases h.closed t ht hk with q | q | ⟨rfl, q⟩
    · exact Or.inl q
    · exact Or.inr q
    · rw [List.take_length] at q
      exact Or.inr q⟩
theorem putB_at (S : Nat → Bool) (k : Nat) : putB S k k = true := by unfold putB; rw [if_pos rfl]
theorem putB_mono {S : Nat → Bool} {k i : Nat} (h : S i = true) : putB S k i = true := by unfold putB; split; rfl; exact h
theorem putB_inv {S : Nat → Bool} {k i : Nat} (h : putB S k i = true) : i = k ∨ S i = true := by
  unfold putB at h
  split at h
  · exact Or.inl (by assumption)
  · exact Or.inr h
theorem BI.step {c : Cd} {r : Nat} {P : Nat → List Int} {S : Nat → Bool} {L L' : List Int} {t0 j x : Nat} (h : BI c r P S L t0 j) (ht0 : t0 < c.n) (hj : j < (P t0).length) (hx : (P t0).getD j 0 = (x : Int)) (hxn : x < c.n) (hs : (t0 : Int) ∈ sucL (c.O x) (c.A x) (c.B x) (c.C x) x) (hL : (S x = false ∧ ¬ c.wr x r ∧ L' = L ++ [(x : Int)]) ∨ ((S x = true ∨ c.wr x r) ∧ L' = L)) : BI c r P (putB S x) L' t0 (j + 1) := by
  have lb : LB c x r := ⟨t0, hs, h.cur (by omega) ht0⟩
  have sub : ∀ t, t ∈ L → t ∈ L' := fun t ht => by
    rcases hL with ⟨_, _, rfl⟩ | ⟨_, rfl⟩
    · exact List.mem_append.2 (Or.inl ht)
    · exact ht
  refine ⟨fun k hk => ?_, fun t ht => ?_, fun t ht hk => ?_, h.cur⟩
  · rcases putB_inv hk with rfl | hk
    · exact ⟨hxn, lb⟩
    · exact h.sound k hk
  · rcases hL with ⟨_, hw, rfl⟩ | ⟨_, rfl⟩
    · rcases List.mem_append.1 ht with q | q
      · exact h.queue t q
      · obtain rfl : t = (x : Int) := by simpa using q
        exact ⟨by omega, by omega, by rw [Int.toNat_natCast]; exact LA.of_behind hxn lb hw⟩
    · exact h.queue t ht
  · have old : Kn c r S t → (t : Int) ∈ L' ∨ (∀ k : Nat, (k : Int) ∈ P t → putB S x k = true) ∨ (t = t0 ∧ ∀ k : Nat, (k : Int) ∈ (P t).take (j + 1) → putB S x k = true) := fun hk => by
      rcases h.closed t ht hk with q | q | ⟨rfl, q⟩
      · exact Or.inl (sub _ q)
      · exact Or.inr (Or.inl fun k hk => putB_mono (q k hk))
      · refine Or.inr (Or.inr ⟨rfl, fun k hk => ?_⟩)
        rw [take_snoc _ _ hj] at hk
        rcases List.mem_append.1 hk with hk | hk
        · exact putB_mono (q k hk)
        · rw [hx] at hk
          obtain rfl : k = x := by have := List.mem_singleton.1 hk; omega
          exact putB_at S k
    rcases hk with hk | ⟨hk, hw⟩
    · exact old (Or.inl hk)
    · rcases putB_inv hk with rfl | hk
      · rcases hL with ⟨_, _, rfl⟩ | ⟨q | q, rfl⟩
        · exact Or.inl (by simp)
        · exact old (Or.inr ⟨q, hw⟩)
        · exact absurd q hw
      · exact old (Or.inr ⟨hk, hw⟩)
theorem BO.kn {c : Cd} {r : Nat} {P : Nat → List Int} {S : Nat → Bool} (h : BO c r P S []) (hP : ∀ t, t < c.n → ∀ k : Nat, k < c.n → (t : Int) ∈ sucL (c.O k) (c.A k) (c.B k) (c.C k) k → (k : Int) ∈ P t) {t : Nat} (ha : LA c t r) : Kn c r S t := by
  induction ha with
  | read k r hk hm => exact Or.inl hm
  | pass k t r hk hs hw ha ih =>
    rcases h.closed t ha.lt (ih h) with q | q
    · cases q
    · exact Or.inr ⟨q k (hP t ha.lt k hk hs), hw⟩
theorem BO.fin {c : Cd} {r : Nat} {P : Nat → List Int} {S : Nat → Bool} (h : BO c r P S []) (hP : ∀ t, t < c.n → ∀ k : Nat, k < c.n → (t : Int) ∈ sucL (c.O k) (c.A k) (c.B k) (c.C k) k → (k : Int) ∈ P t) (k : Nat) (hk : k < c.n) : S k = lbB c k r := by
  unfold lbB
  by_cases q : LB c k r
  · rw [@decide_eq_true _ (Classical.propDecidable _) q]
    obtain ⟨t, hs, ha⟩ := q
    rcases h.closed t ha.lt (h.kn hP ha) with q | q
    · cases q
    · exact q k (hP t ha.lt k hk hs)
  · rw [@decide_eq_false _ (Classical.propDecidable _) q]
    cases e : S k
    · rfl
    · exact absurd (h.sound k e).2 q
theorem cnt_le2 (S : Nat → Bool) (k n : Nat) (hk : k < n) : cntF (putB S k) n ≤ cntF S n := by
  cases h : S k
  · have := cnt_put S k h n hk
    omega
  · have : putB S k = S := by
      funext i
      unfold putB
      by_cases e : i = k
      · rw [if_pos e, e, h]
      · rw [if_neg e]
    rw [this]
    exact Nat.le_refl _
theorem whL_ext {Z Y : Nat → Bool} : ∀ n, (∀ i, i < n → Z i = Y i) → whL Z n = whL Y n
  | 0, _ => rfl
  | n + 1, h => by rw [whL, whL, whL_ext n (fun i hi => h i (by omega)), h n (by omega)]
set_option maxRecDepth 100000 in
set_option maxHeartbeats 2000000 in
theorem writesTo68 (o d a b c x r : Int) (w : World) : Calls Tryd.prog 68 #[.agg #[.int .i64 o, .int .i64 d, .int .i64 a, .int .i64 b, .int .i64 c, .int .u32 x], .int .i64 r] w fun e w' => e = .returned (.bool (nmd o 0 && (d == r))) ∧ Below w.heap.size w w' := by
  have BA : Below w.heap.size w (w.alloc (.cells #[.int .i64 o, .int .i64 d, .int .i64 a, .int .i64 b, .int .i64 c, .int .u32 x] 44)) := (Below.refl _ _).alloc (Nat.le_refl _) _
  have d1 : (w.alloc (.cells #[.int .i64 o, .int .i64 d, .int .i64 a, .int .i64 b, .int .i64 c, .int .u32 x] 44)).cell? ⟨w.heap.size, 1, none⟩ = some (.int .i64 d) := by simp
  have h45 := writes85 o (w.alloc (.cells #[.int .i64 o, .int .i64 d, .int .i64 a, .int .i64 b, .int .i64 c, .int .u32 x] 44))
  have HB : Hid (Below w.heap.size w (w.alloc (.cells #[.int .i64 o, .int .i64 d, .int .i64 a, .int .i64 b, .int .i64 c, .int .u32 x] 44))) := BA
  cases hn : nmd o 0
  · rw [hn] at h45
    clear hn
    go_enter Tryd.func68, Tryd.ntmps68
    go_wp2_with (go_at_call 45; refine h45.mono ?_; rintro e w1 ⟨rfl, B1⟩)
    go_ret
    exact ⟨rfl, HB.out.trans (B1.mono HB.out.size)⟩
  · rw [hn] at h45
    clear hn
    go_enter Tryd.func68, Tryd.ntmps68
    go_wp2_with (go_at_call 45; refine h45.mono ?_; rintro e w1 ⟨rfl, B1⟩; (have e1 := cell_nx d1 B1))
    go_ret
    exact ⟨rfl, HB.out.trans (B1.mono HB.out.size)⟩
set_option maxRecDepth 100000 in
set_option maxHeartbeats 2000000 in
theorem in70 (k g : Nat) (o d a b c x : Int) (S : Nat → Bool) (w : World) (hk : k < 600) (OS : Own w g 600 fun i => .bool (S i)) : Calls Tryd.prog 70 #[.int .i64 (k : Int), .agg #[.int .i64 o, .int .i64 d, .int .i64 a, .int .i64 b, .int .i64 c, .int .u32 x], .pointer (some ⟨g, 0, none⟩)] w fun e w' => e = .returned (.bool (S k)) ∧ Below w.heap.size w w' := by
  have i0 : (0 : Int) ≤ (k : Int) := by omega
  have i1 : (k : Int) < 600 := by omega
  have ck := (OS.next (w' := w.alloc (.cells #[.int .i64 o, .int .i64 d, .int .i64 a, .int .i64 b, .int .i64 c, .int .u32 x] 44)) ((Below.refl _ _).alloc (Nat.le_refl _) _)).cell k hk
  clear OS
  generalize S k = b0 at ck ⊢
  go_enter Tryd.func70, Tryd.ntmps70
  go_wp2
  go_ret
  exact ⟨rfl, (Below.refl _ _).alloc (Nat.le_refl _) _⟩
set_option maxRecDepth 100000 in
set_option maxHeartbeats 4000000 in
theorem where69 (n a cap : Nat) (g : Nat) (O D A B C X : Nat → Int) (Z : Nat → Bool) (w : World) (R : RowI w a n O D A B C X) (n1 : n ≤ 600) (HG : ∀ i, i < n → ∀ v, Below w.heap.size w v → Calls Tryd.prog 70 #[.int .i64 (i : Int), .agg #[.int .i64 (O i), .int .i64 (D i), .int .i64 (A i), .int .i64 (B i), .int .i64 (C i), .int .u32 (X i)], .pointer (some ⟨g, 0, none⟩)] v fun e w' => e = .returned (.bool (Z i)) ∧ Below v.heap.size v w') : Calls Tryd.prog 69 #[.slice (some ⟨a, 0, none⟩) n cap, .func (.func 70) #[] #[.pointer (some ⟨g, 0, none⟩)]] w fun e w' => ∃ v, e = .returned v ∧ IOwn w.heap.size w' v (whL Z n) ∧ Below w.heap.size w w' := by
  obtain ⟨i3, hi3, hz30, hz31, hz32⟩ := info_parts info3
  have HR : Hid (RowI w a n O D A B C X) := R
  have H : Hid (∀ i, i < n → ∀ v, Below w.heap.size w v → Calls Tryd.prog 70 #[.int .i64 (i : Int), .agg #[.int .i64 (O i), .int .i64 (D i), .int .i64 (A i), .int .i64 (B i), .int .i64 (C i), .int .u32 (X i)], .pointer (some ⟨g, 0, none⟩)] v fun e w' => e = .returned (.bool (Z i)) ∧ Below v.heap.size v w') := HG
  clear R HG
  go_enter Tryd.func69, Tryd.ntmps69
  go_wp2
  go_loopw [5, 10] (fun vv i wr => ∃ (k : Nat) (u : Value), k ≤ n ∧ i = .int .i64 k ∧ u = vv ∧ Hid (Ri w.heap.size wr u (whL Z k)) ∧ Hid (Below w.heap.size w wr)) (fun _ i _ => n - (intOf i).toNat)
  case atStart => exact ⟨0, _, by omega, rfl, rfl, ⟨World.ownsRow_nil _ _ _ _, Nat.le_refl _⟩, Below.refl _ _⟩
  case round =>
    obtain ⟨k, u, hk, rfl, rfl, HU, HB⟩ := hrel
    by_cases hkn : k < n
    · have i1 : (k : Int) < (n : Int) := by omega
      have i0 : (0 : Int) ≤ (k : Int) := by omega
      have RK := HR.out.next HB.out
      have c0 := RK.c0 k hkn
      have c1 := RK.c1 k hkn
      have c2 := RK.c2 k hkn
      have c3 := RK.c3 k hkn
      have c4 := RK.c4 k hkn
      have c5 := RK.c5 k hkn
      have BA : Hid (Below w.heap.size w (wr.alloc (.cells #[.int .i64 (O k), .int .i64 (D k), .int .i64 (A k), .int .i64 (B k), .int .i64 (C k), .int .u32 (X k)] 44))) := HB.out.alloc HB.out.size _
      have UA : Hid (Ri w.heap.size (wr.alloc (.cells #[.int .i64 (O k), .int .i64 (D k), .int .i64 (A k), .int .i64 (B k), .int .i64 (C k), .int .u32 (X k)] 44)) u (whL Z k)) := HU.out.alloc _
      have hg := H.out k hkn _ BA.out
      have HC : Hid (whL Z (k + 1) = whL Z k ++ (if Z k then [(k : Int)] else [])) := rfl
      have HLn : Hid ((whL Z k).length ≤ 600) := by have := whL_len Z k; show _ ≤ _; omega
      clear RK HU HB
      generalize whL Z k = L at UA HC HLn
      cases hf : Z k
      · rw [hf] at hg HC
        have HC : Hid (whL Z (k + 1) = L) := by have := HC.out; show _ = _; rw [this]; simp
        clear hf
        go_wp2_with (go_at_call 70; refine hg.mono ?_; rintro e w1 ⟨rfl, B1⟩)
        go_roundw
        case rel => exact ⟨k + 1, _, by omega, by go_num, rfl, by rw [HC.out]; exact UA.out.next B1, BA.out.trans (B1.mono BA.out.size)⟩
        case measure => simp [intOf]; omega
      · rw [hf] at hg HC
        have HC : Hid (whL Z (k + 1) = L ++ [(k : Int)]) := HC
        clear hf
        go_wp2_with (first | (go_at_call 70; refine hg.mono ?_; rintro e w1 ⟨rfl, B1⟩) | (at_builtin; refine wpList_append_own _ rfl _ _ 40 rfl w.heap.size 3 i3 (.int .i64 0) 1 8 Tryd.underlying40 hi3 hz30 hz31 hz32 rfl (by decide) _ _ _ rfl ((UA.out.next B1).alloc _).1 ⟨_, 0, none⟩ 1 1 [.int .i64 (k : Int)] rfl rfl ?_ ?_ ?_ ?_ ?_ ?_))
        · intro j u hj
          match j, hj with
          | 0, hj => simp at hj; subst hj; simp [Addr.add]
        · intro u hu; simp at hu; subst hu; rfl
        · have := HLn.out; unfold maxLen; omega
        · have := HLn.out; omega
        · have := BA.out.size; have := B1.size; simp at *; omega
        intro v3 w3 hown hgrow _
        have B3 : Hid (Below w.heap.size w w3) := ((BA.out.trans (B1.mono BA.out.size)).alloc (by have := BA.out.size; have := B1.size; omega) _).grown hgrow (by have := BA.out.size; have := B1.size; simp at *; omega) (fun q hq => (UA.out.lt q hq).1)
        have U3 : Hid (Ri w.heap.size w3 v3 (whL Z (k + 1))) := by
          show Ri _ _ _ _
          rw [HC.out]
          refine ⟨?_, B3.out.size⟩
          rw [List.length_append, il_app]
          exact hown
        clear hown hgrow UA BA
        go_wp2
        go_roundw
        case rel => exact ⟨k + 1, _, by omega, by go_num, rfl, U3, B3⟩
        case measure => simp [intOf]; omega
    · obtain rfl : k = n := by omega
      have i1 : ¬ (k : Int) < (k : Int) := by omega
      go_wp2
      go_ret
      exact ⟨_, rfl, HU.out.own, HB.out⟩
set_option maxRecDepth 100000 in
set_option maxHeartbeats 4000000 in
theorem clone67 (g o cap : Nat) (L : List Int) (w : World) (n1 : L.length ≤ 5000) (O : ∀ i, i < L.length → w.cell? ⟨g, o + i, none⟩ = some (.int .i64 (L.getD i 0))) : Calls Tryd.prog 67 #[.slice (some ⟨g, o, none⟩) L.length cap] w fun e w' => ∃ v, e = .returned v ∧ ((L = [] ∧ ∃ ad c, v = .slice ad 0 c) ∨ Que w.heap.size w' v L) ∧ Below w.heap.size w w' := by
  obtain ⟨i3, hi3, hz30, hz31, hz32⟩ := info_parts info3
  have B0 : Below w.heap.size w (w.alloc (.cells #[] 3)) := (Below.refl _ _).alloc (Nat.le_refl _) _
  have HO : Hid (∀ i, i < L.length → (w.alloc (.cells #[] 3)).cell? ⟨g, o + i, none⟩ = some (.int .i64 (L.getD i 0))) := fun i hi => cell_nx (O i hi) B0
  have H0 : Hid ((w.alloc (.cells #[] 3)).ownsRow w.heap.size 3 1 (.slice (some ⟨w.heap.size, 0, none⟩) 0 0) 0 []) := World.ownsRow_lit w #[] 0 (Nat.le_refl _) (by decide) rfl
  have qn : ∀ v : World, (binOp .eql 40 (.slice (some ⟨g, o, none⟩) L.length cap) (.slice none 0 0)).run Tryd.prog v = .ok (.bool false) v := fun v => Lib.run_eql_slice_nil v 40 3 (some ⟨g, o, none⟩) L.length cap 0 0 Tryd.underlying40
  clear O B0
  go_enter Tryd.func67, Tryd.ntmps67
  go_wp2_with (at_builtin; refine wpList_append_own _ rfl _ _ 40 rfl w.heap.size 3 i3 (.int .i64 0) 1 8 Tryd.underlying40 hi3 hz30 hz31 hz32 rfl (by decide) _ _ _ rfl H0.out ⟨g, o, none⟩ L.length cap (il L) rfl ?c0 ?c1 ?c2 ?c3 ?c4 ?c5 ?_)
  case c0 => simp [il]
  case c1 =>
    intro j u hj
    have hjl : j < L.length := by have := (List.getElem?_eq_some_iff.1 hj).1; simpa [il] using this
    rw [Addr.add_lit, HO.out j hjl]
    simp [il, hjl] at hj
    rw [← hj]
    simp [List.getD, hjl]
  case c2 =>
    intro u hu
    simp [il] at hu
    obtain ⟨_, _, rfl⟩ := hu
    rfl
  case c3 => unfold maxLen; omega
  case c4 => omega
  case c5 => simp
  intro v3 w3 hown hgrow _
  have hown' : w3.ownsRow w.heap.size 3 1 v3 L.length (il L) := by simpa using hown
  have B3 : Below w.heap.size w w3 := ((Below.refl _ _).alloc (Nat.le_refl _) _).grown hgrow (by simp) (fun q hq => by simp [Value.ownBlock] at hq; omega)
  have hQ : Hid ((L = [] ∧ ∃ ad c, v3 = .slice ad 0 c) ∨ Que w.heap.size w3 v3 L) := by
    by_cases e : L = []
    · subst e
      left
      refine ⟨rfl, ?_⟩
      rcases hown'.2 with ⟨hv, h0⟩ | ⟨g, cap, cur, hv, _⟩
      · exact ⟨_, _, hv⟩
      · exact ⟨_, _, hv⟩
    · exact Or.inr (que_own hown' rfl (List.length_pos_iff.2 e))
  clear hown hgrow hown' H0 HO
  go_wp2
  go_ret
  exact ⟨v3, rfl, hQ.out, B3⟩
end Go.Proofs.YtmeokhppaekhpaaDoor
