/- The model's l12Reached. -/
import Derived.Test.YtlfgboiejoiboaaDoorRch
import Derived.Test.YtlfgboiejoiboaaDoorRwi
import Derived.Deep.LoopGhost
import Derived.Laws.AppendOwnNone
import Derived.OwnWalk
namespace Go.Proofs.YtlfgboiejoiboaaDoor
open Go.ChangeShapes Go.WideShapes Go.ChangeAt Go.RowKit
set_option linter.unusedVariables false
theorem wrap_small (m : Nat) (h : m ≤ 5000) : wrap64 (m : Int) = (m : Int) := by unfold wrap64; omega
theorem info4 : (Tryd.prog.info? 4).map (fun i => (i.zero, i.size, i.bytes)) = some (some (.bool false), 1, 1) := by kernel_rfl
theorem cnt_le (S : Nat → Bool) : ∀ n, cntF S n ≤ n
  | 0 => Nat.le_refl _
  | n + 1 => by have := cnt_le S n; rw [cntF]; split <;> omega
set_option maxRecDepth 100000 in
theorem tg_jump (d a b c x : Int) (w : World) : Calls Tryd.prog 44 #[.agg #[.int .i64 8, .int .i64 d, .int .i64 a, .int .i64 b, .int .i64 c, .int .u32 x]] w fun e w' => ∃ g, e = .returned (.slice (some ⟨g, 0, none⟩) 1 1) ∧ w'.cell? ⟨g, 0, none⟩ = some (.int .i64 a) ∧ Below w.heap.size w w' := by
  go_enter Tryd.func44, Tryd.ntmps44
  go_wp2
  go_ret
  exact ⟨_, rfl, by simp, ((Below.refl _ _).alloc (Nat.le_refl _) _).alloc (by simp) _⟩
set_option maxRecDepth 100000 in
theorem tg_zer (d a b c x : Int) (w : World) : Calls Tryd.prog 44 #[.agg #[.int .i64 9, .int .i64 d, .int .i64 a, .int .i64 b, .int .i64 c, .int .u32 x]] w fun e w' => ∃ g, e = .returned (.slice (some ⟨g, 0, none⟩) 2 2) ∧ (w'.cell? ⟨g, 0, none⟩ = some (.int .i64 b) ∧ w'.cell? ⟨g, 1, none⟩ = some (.int .i64 c)) ∧ Below w.heap.size w w' := by
  go_enter Tryd.func44, Tryd.ntmps44
  go_wp2
  go_ret
  exact ⟨_, rfl, ⟨by simp, by simp⟩, ((Below.refl _ _).alloc (Nat.le_refl _) _).alloc (by simp) _⟩
set_option maxRecDepth 100000 in
theorem tg_none (o d a b c x : Int) (w : World) (h8 : o ≠ 8) (h9 : o ≠ 9) : Calls Tryd.prog 44 #[.agg #[.int .i64 o, .int .i64 d, .int .i64 a, .int .i64 b, .int .i64 c, .int .u32 x]] w fun e w' => e = .returned (.slice none 0 0) ∧ Below w.heap.size w w' := by
  have f8 : (o == 8) = false := by simp [h8]
  have f9 : (o == 9) = false := by simp [h9]
  clear h8 h9
  go_enter Tryd.func44, Tryd.ntmps44
  go_wp2
  go_ret
  exact ⟨rfl, (Below.refl _ _).alloc (Nat.le_refl _) _⟩
theorem own_grown {w w' : World} {o n : Nat} {f : Nat → Value} {r : Option Nat} (h : Own w o n f) (g : w.grownBy w' r) (hr : some o ≠ r) : Own w' o n f :=
  ⟨fun i hi => (World.cell?_of_block (a := ⟨o, i, none⟩) (g.block o h.hi hr)).trans (h.cell i hi), fun i => (World.frozen?_of_block (a := ⟨o, i, none⟩) (g.block o h.hi hr)).trans (h.free i), Nat.lt_of_lt_of_le h.hi g.size⟩
theorem Ri.pre {B : Nat} {w : World} {g cap : Nat} {L : List Int} {t : Int} (h : Ri B w (.slice (some ⟨g, 0, none⟩) (L.length + 1) cap) (L ++ [t])) : Ri B w (.slice (some ⟨g, 0, none⟩) L.length cap) L := by
  obtain ⟨⟨h1, h2⟩, h3⟩ := h
  refine ⟨⟨by simp [il], ?_⟩, h3⟩
  rcases h2 with ⟨h4, _⟩ | ⟨g', cap', cur, hv, hB, hg, hn, hc, hs, ht⟩
  · cases h4
  · injection hv with hv1 hv2 hv3
    injection hv1 with hv1
    injection hv1 with hv1
    subst hv1 hv3
    refine Or.inr ⟨g, cap, cur, rfl, hB, hg, by simp at hn; omega, hc, hs, ?_⟩
    have e : (cur.toList.take ((L ++ [t]).length * 1)).take (L.length * 1) = (il (L ++ [t])).take (L.length * 1) := by rw [ht]
    rw [List.take_take, il_app, show min (L.length * 1) ((L ++ [t]).length * 1) = L.length * 1 by simp] at e
    rw [e, List.take_append_of_le_length (by simp [il])]
    exact List.take_of_length_le (by simp [il])
theorem Ri.more {B : Nat} {w w' : World} {v v' : Value} {L M : List Int} {m : Nat} (h : Ri B w v L) (hm : M.length = m) (k : w'.ownsRow B 3 1 v' (L.length + m) (il L ++ il M)) (hs : w.heap.size ≤ w'.heap.size) : Ri B w' v' (L ++ M) := by
  refine ⟨?_, Nat.le_trans h.2 hs⟩
  rw [List.length_append, hm, il_app]
  exact k
theorem Ri.put {B o j : Nat} {w : World} {v : Value} {L : List Int} (h : Ri B w v L) (ho : o < B) (u : Value) : Ri B (w.setCell ⟨o, j, none⟩ u) v L := by
  have k := (Only.refl o w).setCell j u
  exact ⟨h.1.kept (row := some o) ⟨k.os, k.tape, k.output, k.size, fun i hi hne => k.block i hi (fun e => hne (by rw [e]))⟩ (by
    cases e : v.ownBlock with
    | none => exact Or.inl rfl
    | some g => right; intro q; injection q with q; have := (h.1.lt g e).1; omega), Nat.le_trans h.2 k.size⟩
set_option maxRecDepth 100000 in
set_option maxHeartbeats 8000000 in
theorem reached27 (n a cap : Nat) (O D A B C X : Nat → Int) (w : World) (R : RowI w a n O D A B C X) (n0 : 1 ≤ n) (n1 : n ≤ 600) (hb : ∀ k, k < n → 0 ≤ A k ∧ 0 ≤ B k ∧ 0 ≤ C k) : Calls Tryd.prog 27 #[.slice (some ⟨a, 0, none⟩) n cap] w fun e w' => e = .returned (.slice (some ⟨w.heap.size, 0, none⟩) n n) ∧ Own w' w.heap.size n (fun i => .bool (rchB O A B C n i)) ∧ Below w.heap.size w w' := by
  obtain ⟨i3, hi3, hz30, hz31, hz32⟩ := info_parts info3
  obtain ⟨i4, hi4, hz40, hz41, hz42⟩ := info_parts info4
  have HR : Hid (RowI w a n O D A B C X) := R
  have HB : Hid (∀ k, k < n → 0 ≤ A k ∧ 0 ≤ B k ∧ 0 ≤ C k) := hb
  clear R hb
  go_enter Tryd.func27, Tryd.ntmps27
  go_wp2_with (at_make; refine wpList_make_full _ rfl _ _ 24 rfl w.heap.size 4 i4 (.bool false) 1 Tryd.underlying24 hi4 hz40 hz41 .i64 .i64 _ _ n rfl rfl rfl rfl ?b2 ?b3 ?b4 ?_)
  case b2 => rw [hz42]; omega
  case b3 => unfold maxLen; omega
  case b4 => exact Nat.le_refl _
  intro w1 hown hgrow
  have S0 : Own w1 w.heap.size n (fun i => .bool false) := own_made (by rw [Nat.mul_one]; exact hown)
  have B1 : Below w.heap.size w w1 := ⟨hgrow.os, hgrow.tape, hgrow.output, hgrow.size, fun k hk => hgrow.block k hk (by simp)⟩
  have HS0 : Hid (Own (w1.alloc (.cells #[.int .i64 0] 3)) w.heap.size n (fun i => .bool false)) := S0.next ((Below.refl _ _).alloc (Nat.le_refl _) _)
  have HB1 : Hid (Below w.heap.size w (w1.alloc (.cells #[.int .i64 0] 3))) := B1.alloc B1.size _
  have R0 : Hid (Ri (w.heap.size + 1) (w1.alloc (.cells #[.int .i64 0] 3)) (.slice (some ⟨w1.heap.size, 0, none⟩) 1 1) [0]) := ⟨World.ownsRow_lit w1 #[.int .i64 0] 1 (by have := S0.hi; omega) (by decide) rfl, by have := S0.hi; simp; omega⟩
  clear hown hgrow S0 B1
  go_wp2
  go_loopg [4] (4 * cntF (fun _ => false) n + 1) (fun gk vv wr => ∃ (L : List Int) (S : Nat → Bool) (u : Value), gk = 4 * cntF S n + L.length ∧ u = vv ∧ Hid (Ri (w.heap.size + 1) wr u L) ∧ Hid (Own wr w.heap.size n (fun i => .bool (S i))) ∧ Hid (RS O A B C n S L) ∧ Hid (Below w.heap.size w wr) ∧ gk ≤ 5000)
  case atStart => exact ⟨[0], fun _ => false, _, rfl, rfl, R0, HS0, rs_begin O A B C n n0, HB1, by have := cnt_le (fun _ => false) n; omega⟩
  case round =>
    obtain ⟨L0, S, u, hgk, rfl, HL, HS, HI, HBw, hg5⟩ := hrel
    clear HS0 HB1 R0
    rcases List.eq_nil_or_concat L0 with rfl | ⟨L, t, rfl⟩
    · obtain ⟨ad, cp, rfl⟩ : ∃ ad cp, u = .slice ad 0 cp := by
        rcases HL.out.1.2 with ⟨rfl, _⟩ | ⟨g, cp, cur, rfl, _⟩
        · exact ⟨_, _, rfl⟩
        · exact ⟨_, _, rfl⟩
      have HE : Hid (Own wr w.heap.size n (fun i => .bool (rchB O A B C n i))) := HS.out.mono (Nat.le_refl _) (fun i hi => by show Value.bool _ = Value.bool _; rw [rs_rch HI.out i hi])
      clear HL HS HI
      go_wp2
      go_ret
      exact ⟨rfl, HE.out, HBw.out⟩
    · have hlen : (L ++ [t]).length = L.length + 1 := by simp
      have hca : L.concat t = L ++ [t] := by simp
      try rw [hca] at HL HI hgk
      obtain ⟨g, cap, cur, rfl, _, _, hcap, _⟩ := HL.out.1.2.resolve_left (fun h => by have := h.2; simp at this)
      rw [hlen] at HL hgk hcap ⊢
      have hc1 : L.length ≤ cap := by omega
      have hc2 : (L.length : Int) ≤ (cap : Int) := by omega
      have ct : wr.cell? ⟨g, L.length, none⟩ = some (.int .i64 t) := by
        have h1 := HL.out.1
        rw [hlen] at h1
        rw [h1.cellAt L.length (by omega)]
        unfold il
        rw [List.getElem?_map]
        simp
      have RP : Hid (Ri (w.heap.size + 1) wr (.slice (some ⟨g, 0, none⟩) L.length cap) L) := HL.out.pre
      have HLm : Hid (L.length ≤ 5000) := by show _ ≤ _; omega
      have m0 : (0 : Int) < ((L.length + 1 : Nat) : Int) := by omega
      have m1 : ((L.length + 1 : Nat) : Int) - 1 = (L.length : Int) := by omega
      have HGk : Hid (gk = 4 * cntF S n + (L.length + 1) ∧ gk ≤ 5000) := ⟨hgk, hg5⟩
      have t0 := (HI.out.todo t (by simp)).1
      clear HL hgk hg5 hlen hca
      by_cases h1 : (n : Int) ≤ t
      · have HN : Hid (RS O A B C n S L) := rs_skip HI.out (Or.inl h1) n0
        have q0 : ¬ t < (n : Int) := by omega
        clear HI
        have lm : L.length ≤ 5000 := HLm.out
        go_wp2
        go_roundg (4 * cntF S n + L.length)
        case measure => have := HGk.out; omega
        case rel => exact ⟨L, S, _, rfl, rfl, RP, HS, HN, HBw, by have := HGk.out; omega⟩
      obtain ⟨kt, rfl⟩ : ∃ kt : Nat, t = (kt : Int) := ⟨t.toNat, by omega⟩
      have hk : kt < n := by omega
      have q0 : (kt : Int) < (n : Int) := by omega
      have q1 : ¬ (n : Int) ≤ (kt : Int) := by omega
      have cs := HS.out.cell kt hk
      cases hS : S kt
      · rw [hS] at cs
        have HT : Hid (RS O A B C n (putB S kt) (L ++ sucL (O kt) (A kt) (B kt) (C kt) kt)) := rs_take HI.out hk (fun t ht => by
          have hbb := HB.out kt hk
          unfold sucL tgL at ht
          rcases List.mem_append.1 ht with h | h
          · split at h
            · simp at h; omega
            · split at h
              · simp at h; omega
              · cases h
          · split at h
            · cases h
            · simp at h; omega)
        have HC : Hid (cntF (putB S kt) n + 1 = cntF S n) := cnt_put S kt hS n hk
        have S1 : Hid (Own (wr.setCell ⟨w.heap.size, kt, none⟩ (.bool true)) w.heap.size n (fun i => .bool (putB S kt i))) := HS.out.set kt _ hk (fun i hi => by unfold putB; by_cases e : i = kt; (rw [if_pos e, if_pos e]); rw [if_neg e, if_neg e])
        have R1 : Hid (Ri (w.heap.size + 1) (wr.setCell ⟨w.heap.size, kt, none⟩ (.bool true)) (.slice (some ⟨g, 0, none⟩) L.length cap) L) := RP.out.put (by omega) _
        have B01 : Hid (Below w.heap.size w (wr.setCell ⟨w.heap.size, kt, none⟩ (.bool true))) := HBw.out.setCell (p := ⟨w.heap.size, kt, none⟩) (Nat.le_refl _) _
        have fz := HS.out.free kt
        have RK := HR.out.next B01.out
        have c0 := RK.c0 kt hk
        have c1 := RK.c1 kt hk
        have c2 := RK.c2 kt hk
        have c3 := RK.c3 kt hk
        have c4 := RK.c4 kt hk
        have c5 := RK.c5 kt hk
        clear RK HI hS RP HBw HS
        by_cases h8 : O kt = 8
        · have ho := h8
          rw [ho] at c0
          clear h8
          have h43 := fun v => tg_jump (D kt) (A kt) (B kt) (C kt) (X kt) v
          have lm : L.length ≤ 5000 := HLm.out
          go_wp2_with (first | (go_at_call 44; refine (h43 _).mono ?_; rintro e w2 ⟨gt, rfl, ct1, B2⟩; (have R2 := R1.out.next B2)) | (at_builtin; refine wpList_append_own _ rfl _ _ 54 rfl (w.heap.size + 1) 3 i3 (.int .i64 0) 1 8 Tryd.underlying54 hi3 hz30 hz31 hz32 rfl (by decide) _ _ _ rfl R2.1 ⟨gt, 0, none⟩ 1 1 [.int .i64 (A kt)] rfl rfl ?a1 ?a2 ?a3 ?a4 ?a5 ?_))
          case a1 =>
            intro j u hj
            match j, hj with
            | 0, hj => simp at hj; subst hj; simpa [Addr.add] using ct1
          case a2 => intro u hu; simp at hu; subst hu; rfl
          case a3 => have := HLm.out; unfold maxLen; simp; omega
          case a4 => have := HLm.out; simp; omega
          case a5 => have := R2.2; simp at *; omega
          intro v3 w3 hown hgrow _
          have R3 : Hid (Ri (w.heap.size + 1) w3 v3 (L ++ [A kt])) := R2.more (M := [A kt]) rfl hown hgrow.size
          have NE : some w.heap.size ≠ (Value.slice (some ⟨g, 0, none⟩) L.length cap).ownBlock := by intro e; have := (R2.lt _ e.symm).1; omega
          have S3 : Hid (Own w3 w.heap.size n (fun i => .bool (putB S kt i))) := own_grown (S1.out.next B2) hgrow NE
          have B3 : Hid (Below w.heap.size w w3) := (B01.out.trans (B2.mono B01.out.size)).grown hgrow (by have := B01.out.size; have := B2.size; omega) (fun q hq => by have := (R2.lt q hq).1; omega)
          have c0' := (HR.out.next B3.out).c0 kt hk
          clear hown hgrow NE B2 R2
          rw [ho] at c0'
          have HN : Hid (RS O A B C n (putB S kt) (L ++ [A kt])) := by have := HT.out; rw [show sucL (O kt) (A kt) (B kt) (C kt) kt = [A kt] by rw [ho]; rfl] at this; exact this
          go_wp2
          go_roundg (4 * cntF (putB S kt) n + (L ++ [A kt]).length)
          case measure => have := HC.out; have := HGk.out; simp; omega
          case rel => exact ⟨L ++ [A kt], putB S kt, v3, rfl, rfl, R3, S3, HN, B3, by have := HC.out; have := HGk.out; simp; omega⟩
        by_cases h9 : O kt = 9
        · have ho := h9
          rw [ho] at c0
          clear h9 h8
          have h43 := fun v => tg_zer (D kt) (A kt) (B kt) (C kt) (X kt) v
          have lm : L.length ≤ 5000 := HLm.out
          go_wp2_with (first | (go_at_call 44; refine (h43 _).mono ?_; rintro e w2 ⟨gt, rfl, ⟨ct1, ct2⟩, B2⟩; (have R2 := R1.out.next B2)) | (at_builtin; refine wpList_append_own _ rfl _ _ 54 rfl (w.heap.size + 1) 3 i3 (.int .i64 0) 1 8 Tryd.underlying54 hi3 hz30 hz31 hz32 rfl (by decide) _ _ _ rfl R2.1 ⟨gt, 0, none⟩ 2 2 [.int .i64 (B kt), .int .i64 (C kt)] rfl rfl ?a1 ?a2 ?a3 ?a4 ?a5 ?_))
          case a1 =>
            intro j u hj
            match j, hj with
            | 0, hj => simp at hj; subst hj; simpa [Addr.add] using ct1
            | 1, hj => simp at hj; subst hj; simpa [Addr.add] using ct2
          case a2 => intro u hu; simp at hu; rcases hu with rfl | rfl <;> rfl
          case a3 => have := HLm.out; unfold maxLen; simp; omega
          case a4 => have := HLm.out; simp; omega
          case a5 => have := R2.2; simp at *; omega
          intro v3 w3 hown hgrow _
          have R3 : Hid (Ri (w.heap.size + 1) w3 v3 (L ++ [B kt, C kt])) := R2.more (M := [B kt, C kt]) rfl hown hgrow.size
          have NE : some w.heap.size ≠ (Value.slice (some ⟨g, 0, none⟩) L.length cap).ownBlock := by intro e; have := (R2.lt _ e.symm).1; omega
          have S3 : Hid (Own w3 w.heap.size n (fun i => .bool (putB S kt i))) := own_grown (S1.out.next B2) hgrow NE
          have B3 : Hid (Below w.heap.size w w3) := (B01.out.trans (B2.mono B01.out.size)).grown hgrow (by have := B01.out.size; have := B2.size; omega) (fun q hq => by have := (R2.lt q hq).1; omega)
          have c0' := (HR.out.next B3.out).c0 kt hk
          clear hown hgrow NE B2 R2
          rw [ho] at c0'
          go_wp2_with (at_builtin; refine wpList_append_own _ rfl _ _ 54 rfl (w.heap.size + 1) 3 i3 (.int .i64 0) 1 8 Tryd.underlying54 hi3 hz30 hz31 hz32 rfl (by decide) _ _ _ rfl (R3.out.1.alloc _) ⟨w3.heap.size, 0, none⟩ 1 1 [.int .i64 ((kt : Int) + 1)] rfl rfl ?b1 ?b2 ?b3 ?b4 ?b5 ?_)
          case b1 =>
            intro j u hj
            match j, hj with
            | 0, hj => simp at hj; subst hj; simp [Addr.add]
          case b2 => intro u hu; simp at hu; subst hu; rfl
          case b3 => have := HLm.out; unfold maxLen; simp; omega
          case b4 => have := HLm.out; simp; omega
          case b5 => have := R3.out.2; simp at *; omega
          intro v5 w5 hown hgrow _
          have R5 : Hid (Ri (w.heap.size + 1) w5 v5 ((L ++ [B kt, C kt]) ++ [((kt : Int) + 1)])) := (R3.out.alloc (.cells #[.int .i64 ((kt : Int) + 1)] 3)).more (M := [((kt : Int) + 1)]) rfl (by first | exact hown | (rw [List.length_append]; exact hown)) hgrow.size
          have NE : some w.heap.size ≠ v3.ownBlock := by intro e; have := (R3.out.lt _ e.symm).1; omega
          have S5 : Hid (Own w5 w.heap.size n (fun i => .bool (putB S kt i))) := own_grown ((S3.out).next ((Below.refl _ _).alloc (Nat.le_refl _) _)) hgrow NE
          have B5 : Hid (Below w.heap.size w w5) := (B3.out.alloc (by have := B3.out.size; omega) _).grown hgrow (by have := B3.out.size; simp; omega) (fun q hq => by have := (R3.out.lt q hq).1; omega)
          have HN : Hid (RS O A B C n (putB S kt) ((L ++ [B kt, C kt]) ++ [((kt : Int) + 1)])) := by
            have := HT.out
            rw [show sucL (O kt) (A kt) (B kt) (C kt) kt = [B kt, C kt, ((kt : Int) + 1)] from by rw [ho]; simp [sucL, tgL]] at this
            show RS _ _ _ _ _ _ _
            simpa using this
          clear hown hgrow NE
          go_wp2
          go_roundg (4 * cntF (putB S kt) n + ((L ++ [B kt, C kt]) ++ [((kt : Int) + 1)]).length)
          case measure => have := HC.out; have := HGk.out; simp; omega
          case rel => exact ⟨(L ++ [B kt, C kt]) ++ [((kt : Int) + 1)], putB S kt, v5, rfl, rfl, R5, S5, HN, B5, by have := HC.out; have := HGk.out; simp; omega⟩
        by_cases h11 : O kt = 11
        · have ho := h11
          rw [ho] at c0
          clear h11 h8 h9
          have h43 := fun v => tg_none 11 (D kt) (A kt) (B kt) (C kt) (X kt) v (by decide) (by decide)
          have HN : Hid (RS O A B C n (putB S kt) L) := by have := HT.out; rw [show sucL (O kt) (A kt) (B kt) (C kt) kt = [] by rw [ho]; rfl, List.append_nil] at this; exact this
          have lm : L.length ≤ 5000 := HLm.out
          go_wp2_with (first | (go_at_call 44; refine (h43 _).mono ?_; rintro e w2 ⟨rfl, B2⟩; (have R2 := R1.out.next B2); (have c0' := (HR.out.next (B01.out.trans (B2.mono B01.out.size))).c0 kt hk); (rw [ho] at c0')) | (at_builtin; refine wpList_append_own_none rfl _ _ 54 rfl (w.heap.size + 1) 3 i3 1 Tryd.underlying54 hi3 _ _ _ rfl R2.1 rfl ?_))
          have R3 : Hid (Ri (w.heap.size + 1) w2 (.slice (some ⟨g, 0, none⟩) L.length cap) L) := R2
          have S3 : Hid (Own w2 w.heap.size n (fun i => .bool (putB S kt i))) := S1.out.next B2
          have B3 : Hid (Below w.heap.size w w2) := B01.out.trans (B2.mono B01.out.size)
          clear B2 R2
          go_roundg (4 * cntF (putB S kt) n + L.length)
          case measure => have := HC.out; have := HGk.out; omega
          case rel => exact ⟨L, putB S kt, _, rfl, rfl, R3, S3, HN, B3, by have := HC.out; have := HGk.out; omega⟩
        have f8 : (O kt == 8) = false := by simp [h8]
        have f8' : (O kt != 8) = true := by simp [h8]
        have f11 : (O kt == 11) = false := by simp [h11]
        have f11' : (O kt != 11) = true := by simp [h11]
        have h43 := fun v => tg_none (O kt) (D kt) (A kt) (B kt) (C kt) (X kt) v h8 h9
        have lm : L.length ≤ 5000 := HLm.out
        go_wp2_with (first | (go_at_call 44; refine (h43 _).mono ?_; rintro e w2 ⟨rfl, B2⟩; (have R2 := R1.out.next B2); (have c0' := (HR.out.next (B01.out.trans (B2.mono B01.out.size))).c0 kt hk)) | (at_builtin; refine wpList_append_own_none rfl _ _ 54 rfl (w.heap.size + 1) 3 i3 1 Tryd.underlying54 hi3 _ _ _ rfl R2.1 rfl ?_) | (at_builtin; refine wpList_append_own _ rfl _ _ 54 rfl (w.heap.size + 1) 3 i3 (.int .i64 0) 1 8 Tryd.underlying54 hi3 hz30 hz31 hz32 rfl (by decide) _ _ _ rfl (R2.1.alloc _) ⟨w2.heap.size, 0, none⟩ 1 1 [.int .i64 ((kt : Int) + 1)] rfl rfl ?b1 ?b2 ?b3 ?b4 ?b5 ?_))
        case b1 =>
          intro j u hj
          match j, hj with
          | 0, hj => simp at hj; subst hj; simp [Addr.add]
        case b2 => intro u hu; simp at hu; subst hu; rfl
        case b3 => have := HLm.out; unfold maxLen; simp; omega
        case b4 => have := HLm.out; simp; omega
        case b5 => have := R2.2; simp at *; omega
        intro v5 w5 hown hgrow _
        have R5 : Hid (Ri (w.heap.size + 1) w5 v5 (L ++ [((kt : Int) + 1)])) := (R2.alloc (.cells #[.int .i64 ((kt : Int) + 1)] 3)).more (M := [((kt : Int) + 1)]) rfl (by first | exact hown | (rw [List.length_append]; exact hown)) hgrow.size
        have NE : some w.heap.size ≠ (Value.slice (some ⟨g, 0, none⟩) L.length cap).ownBlock := by intro e; have := (R2.lt _ e.symm).1; omega
        have S5 : Hid (Own w5 w.heap.size n (fun i => .bool (putB S kt i))) := own_grown ((S1.out.next B2).next ((Below.refl _ _).alloc (Nat.le_refl _) _)) hgrow NE
        have B5 : Hid (Below w.heap.size w w5) := ((B01.out.trans (B2.mono B01.out.size)).alloc (by have := (B01.out.trans (B2.mono B01.out.size)).size; omega) _).grown hgrow (by have := (B01.out.trans (B2.mono B01.out.size)).size; simp; omega) (fun q hq => by have := (R2.lt q hq).1; omega)
        have HN : Hid (RS O A B C n (putB S kt) (L ++ [((kt : Int) + 1)])) := by
          have := HT.out
          rw [show sucL (O kt) (A kt) (B kt) (C kt) kt = [((kt : Int) + 1)] from by unfold sucL tgL; rw [if_neg h8, if_neg h9, if_neg (by omega)]; simp] at this
          show RS _ _ _ _ _ _ _
          simpa using this
        clear hown hgrow NE
        go_wp2
        go_roundg (4 * cntF (putB S kt) n + (L ++ [((kt : Int) + 1)]).length)
        case measure => have := HC.out; have := HGk.out; simp; omega
        case rel => exact ⟨L ++ [((kt : Int) + 1)], putB S kt, v5, rfl, rfl, R5, S5, HN, B5, by have := HC.out; have := HGk.out; simp; omega⟩
      · rw [hS] at cs
        have HN : Hid (RS O A B C n S L) := rs_skip HI.out (Or.inr (by simpa using hS)) n0
        clear HI hS
        have lm : L.length ≤ 5000 := HLm.out
        go_wp2
        go_roundg (4 * cntF S n + L.length)
        case measure => have := HGk.out; omega
        case rel => exact ⟨L, S, _, rfl, rfl, RP, HS, HN, HBw, by have := HGk.out; omega⟩
end Go.Proofs.YtlfgboiejoiboaaDoor
