/- The program's nexts and reached: where an instruction leads, and what is reached. -/
import Derived.Test.YtlfgboiejoiboaaDoorQue
import Derived.Test.YtlfgboiejoiboaaDoorRcm
import Derived.Test.YtlfgboiejoiboaaDoorRop
namespace Go.Proofs.YtlfgboiejoiboaaDoor
open Go.ChangeShapes Go.WideShapes Go.ChangeAt Go.RowKit
set_option linter.unusedVariables false
theorem RS.same {O A B C : Nat → Int} {n : Nat} {S : Nat → Bool} {L M : List Int} (h : RS O A B C n S L) (hm : ∀ t, t ∈ L ↔ t ∈ M) : RS O A B C n S M :=
  ⟨h.sound, fun t ht => h.todo t ((hm t).2 ht), fun k hk hs t ht htn => (h.closed k hk hs t ht htn).imp id fun q => (hm t).1 q, h.start.imp id fun q => (hm 0).1 q⟩
theorem rs_skip_head {O A B C : Nat → Int} {n : Nat} {S : Nat → Bool} {L : List Int} {t : Int} (h : RS O A B C n S (t :: L)) (ht : S t.toNat = true) (hn : 0 < n) : RS O A B C n S L :=
  rs_skip (h.same (fun u => by simp only [List.mem_cons, List.mem_append, List.not_mem_nil, or_false]; exact or_comm)) (Or.inr ht) hn
theorem rs_take_head {O A B C : Nat → Int} {n : Nat} {S : Nat → Bool} {L : List Int} {k : Nat} (h : RS O A B C n S ((k : Int) :: L)) (hk : k < n) (hb : ∀ t, t ∈ sucL (O k) (A k) (B k) (C k) k → 0 ≤ t) : RS O A B C n (putB S k) (L ++ sucL (O k) (A k) (B k) (C k) k) :=
  rs_take (h.same (fun u => by simp only [List.mem_cons, List.mem_append, List.not_mem_nil, or_false]; exact or_comm)) hk hb
/-- What leads on leads into the code. -/
def Sucs (O A B C : Nat → Int) (n : Nat) : Prop := ∀ k, k < n → ∀ t, t ∈ sucL (O k) (A k) (B k) (C k) k → 0 ≤ t ∧ t < n
theorem rchB_off {O A B C : Nat → Int} {n i : Nat} (h : n ≤ i) : rchB O A B C n i = false := by
  unfold rchB
  exact @decide_eq_false _ (Classical.propDecidable _) (fun r => by have := r.lt; omega)
set_option maxRecDepth 100000 in
set_option maxHeartbeats 4000000 in
theorem nexts49 (n a cap k : Nat) (O D A B C X : Nat → Int) (w : World) (R : RowI w a n O D A B C X) (hk : k < n) (n1 : n ≤ 600) : Calls Tryd.prog 49 #[.slice (some ⟨a, 0, none⟩) n cap, .int .i64 (k : Int)] w fun e w' => ∃ v, e = .returned v ∧ IOwn w.heap.size w' v (sucL (O k) (A k) (B k) (C k) k) ∧ Below w.heap.size w w' := by
  have i0 : (0 : Int) ≤ (k : Int) := by omega
  have i1 : (k : Int) < (n : Int) := by omega
  have wk : wrap64 ((k : Int) + 1) = (k : Int) + 1 := by unfold wrap64; omega
  have c0 := R.c0 k hk
  have c1 := R.c1 k hk
  have c2 := R.c2 k hk
  have c3 := R.c3 k hk
  have c4 := R.c4 k hk
  have c5 := R.c5 k hk
  have HK : Hid (((k + 1 : Nat) : Int) = (k : Int) + 1) := by show _ = _; omega
  clear R
  generalize O k = o at c0 ⊢
  generalize D k = dd at c1
  generalize A k = aa at c2 ⊢
  generalize B k = bb at c3 ⊢
  generalize C k = cc at c4 ⊢
  generalize X k = xx at c5
  obtain ⟨L, hL⟩ : ∃ L, sucL o aa bb cc k = L := ⟨_, rfl⟩
  have HL : Hid (sucL o aa bb cc k = L) := hL
  rw [hL]
  clear hL
  by_cases e8 : o = 8
  · subst e8
    obtain rfl : [aa] = L := HL.out
    go_enter Tryd.func49, Tryd.ntmps49
    go_wp2
    go_ret
    exact ⟨_, rfl, Or.inr ⟨_, 1, rfl, by simp, by simp, ints_at _ _ (by simp) [aa]⟩, ((Below.refl _ _).alloc (Nat.le_refl _) _).alloc (by simp) _⟩
  have f8 : (o == 8) = false := by simp; omega
  by_cases e9 : o = 9
  · subst e9
    obtain rfl : [bb, cc, (k : Int) + 1] = L := by rw [← HL.out]; simp [sucL, tgL]
    go_enter Tryd.func49, Tryd.ntmps49
    go_wp2
    go_ret
    exact ⟨_, rfl, Or.inr ⟨_, 3, rfl, by simp, by simp, ints_at _ _ (by simp) [bb, cc, (k : Int) + 1]⟩, ((Below.refl _ _).alloc (Nat.le_refl _) _).alloc (by simp) _⟩
  have f9 : (o == 9) = false := by simp; omega
  by_cases e11 : o = 11
  · subst e11
    obtain rfl : [] = L := by rw [← HL.out]; simp [sucL, tgL]
    go_enter Tryd.func49, Tryd.ntmps49
    go_wp2
    go_ret
    exact ⟨_, rfl, Or.inl ⟨rfl, rfl⟩, (Below.refl _ _).alloc (Nat.le_refl _) _⟩
  have f11 : (o == 11) = false := by simp; omega
  obtain rfl : [(k : Int) + 1] = L := by rw [← HL.out]; simp [sucL, tgL, e8, e9, e11]
  clear e8 e9 e11
  go_enter Tryd.func49, Tryd.ntmps49
  go_wp2
  go_ret
  exact ⟨_, rfl, Or.inr ⟨_, 1, rfl, by simp, by simp, ints_at _ _ (by simp) [(k : Int) + 1]⟩, ((Below.refl _ _).alloc (Nat.le_refl _) _).alloc (by simp) _⟩
set_option maxRecDepth 100000 in
set_option maxHeartbeats 8000000 in
theorem reached30 (n a cap : Nat) (O D A B C X : Nat → Int) (w : World) (R : RowI w a n O D A B C X) (n0 : 1 ≤ n) (n1 : n ≤ 600) (hb : Sucs O A B C n) : Calls Tryd.prog 30 #[.slice (some ⟨a, 0, none⟩) n cap] w fun e w' => e = .returned (.agg (bits (rchB O A B C n))) ∧ Below w.heap.size w w' := by
  obtain ⟨i3, hi3, hz30, hz31, hz32⟩ := info_parts info3
  have z44 := zv44
  have HR : Hid (RowI w a n O D A B C X) := R
  have HB : Hid (Sucs O A B C n) := hb
  clear R hb
  obtain ⟨w1, hw1⟩ : ∃ w1, (w.alloc (.cells (bits fun _ => false) 44)).alloc (.cells (bits fun _ => false) 44) = w1 := ⟨_, rfl⟩
  have HW : Hid (w1.heap.size = w.heap.size + 2) := by show _ = _; rw [← hw1]; simp
  have HO1 : Hid (Own w1 w.heap.size 600 (fun _ => .bool false)) := by
    have O1 : Own (w.alloc (.cells (bits fun _ => false) 44)) w.heap.size 600 (fun _ => .bool false) := own_vals w _ 600 44
    have := O1.next (w' := w1) (by rw [← hw1]; exact (Below.refl _ _).alloc (Nat.le_refl _) _)
    exact this
  have HO2 : Hid (Own w1 (w.heap.size + 1) 600 (fun _ => .bool false)) := by
    have O2 := own_vals (w.alloc (.cells (bits fun _ => false) 44)) (fun _ => .bool false) 600 44
    rw [World.size_alloc] at O2
    rw [← hw1]
    exact O2
  have HB1 : Hid (Below w.heap.size w w1) := by show Below _ _ _; rw [← hw1]; exact ((Below.refl _ _).alloc (Nat.le_refl _) _).alloc (by simp) _
  have BA : Below w1.heap.size w1 (w1.alloc (.cells #[.int .i64 0] 3)) := (Below.refl _ _).alloc (Nat.le_refl _) _
  have HO1' : Hid (Own (w1.alloc (.cells #[.int .i64 0] 3)) w.heap.size 600 (fun _ => .bool false)) := HO1.out.next BA
  have HO2' : Hid (Own (w1.alloc (.cells #[.int .i64 0] 3)) (w.heap.size + 1) 600 (fun _ => .bool false)) := HO2.out.next BA
  have HB1' : Hid (Below w.heap.size w (w1.alloc (.cells #[.int .i64 0] 3))) := HB1.out.trans (BA.mono HB1.out.size)
  have HQ' : Hid (Que (w.heap.size + 2) (w1.alloc (.cells #[.int .i64 0] 3)) (.slice (some ⟨w1.heap.size, 0, none⟩) 1 1) [0]) := by
    have := que_lit w1 0
    rw [HW.out] at this ⊢
    exact this
  clear HO1 HO2 HB1 BA
  go_enter Tryd.func30, Tryd.ntmps30
  go_wp2
  clear hw1
  go_loopg [4] (4 * cntF (fun _ => false) n + 1) (fun gk vv wr => ∃ (L : List Int) (S : Nat → Bool) (u : Value), gk = 4 * cntF S n + L.length ∧ u = vv ∧ Hid (Que (w.heap.size + 2) wr u L) ∧ Hid (Own wr (w.heap.size + 1) 600 (fun i => .bool (S i))) ∧ Hid (Own wr w.heap.size 600 (fun _ => .bool false)) ∧ Hid (RS O A B C n S L ∧ (∀ t, t ∈ L → 0 ≤ t ∧ t < n) ∧ ∀ i, n ≤ i → S i = false) ∧ Hid (Below w.heap.size w wr) ∧ gk ≤ 5000)
  case atStart => exact ⟨[0], fun _ => false, _, rfl, rfl, HQ', HO2', HO1', ⟨rs_begin O A B C n n0, fun t ht => by simp at ht; subst ht; omega, fun _ _ => rfl⟩, HB1', by have := cnt_le (fun _ => false) n; omega⟩
  case round =>
    obtain ⟨L0, S, u, hgk, rfl, HL, HS, HZ, HI, HBw, hg5⟩ := hrel
    clear HO1' HO2' HB1' HQ' HW
    cases L0 with
    | nil =>
      obtain ⟨g, off, cp, rfl, _⟩ := HL.out
      have HE : Hid (Own wr (w.heap.size + 1) 600 (fun i => .bool (rchB O A B C n i))) := HS.out.mono (Nat.le_refl _) (fun i hi => by
        show Value.bool _ = Value.bool _
        by_cases e : i < n
        · rw [rs_rch HI.out.1 i e]
        · rw [HI.out.2.2 i (by omega), rchB_off (by omega)])
      clear HL HS HI
      simp only [List.length_nil]
      go_wp2_with (first | (refine wpList_load_own rfl 44 _ rfl (w.heap.size + 1) rfl 600 _ _ HE.out Tryd.underlying44 rfl size44 ?_) | (refine wpList_store_own rfl 44 _ _ rfl w.heap.size rfl 600 _ _ rfl HZ.out (fun _ => rfl) size44 ?_; intro w2 O2 K2))
      (try simp only [Exit.inBlock, Exit.then])
      exact bodyPost_ret (results_own rfl _ _ w.heap.size 600 _ _ rfl O2 Tryd.underlying44 rfl size44) rfl ⟨rfl, HBw.out.trans (K2.below (Nat.le_refl _) HBw.out.size)⟩
    | cons t L =>
      obtain ⟨g, off, cp, rfl, _⟩ := id HL.out
      simp only [List.length_cons] at HL hgk ⊢
      obtain ⟨ct, Q1, Q2⟩ := HL.out.drop
      obtain ⟨t0, t1⟩ := HI.out.2.1 t (by simp)
      have hcp : L.length + 1 ≤ cp := by obtain ⟨_, _, _, hv, _, _, h, _⟩ := HL.out; injection hv with _ _ h3; subst h3; simpa using h
      obtain ⟨kt, rfl⟩ : ∃ kt : Nat, t = (kt : Int) := ⟨t.toNat, by omega⟩
      have hk : kt < n := by omega
      have k6 : (kt : Int) < 600 := by omega
      have k0 : (0 : Int) ≤ (kt : Int) := by omega
      have m0 : (0 : Int) < ((L.length + 1 : Nat) : Int) := by omega
      have m1 : (1 : Int) ≤ ((L.length + 1 : Nat) : Int) := by omega
      have m2 : (0 : Int) < (L.length : Int) + 1 := by omega
      have m3 : (1 : Int) ≤ (L.length : Int) + 1 := by omega
      have cs := HS.out.cell kt (by omega)
      have fs := HS.out.free kt
      have HGk : Hid (gk = 4 * cntF S n + (L.length + 1) ∧ gk ≤ 5000) := ⟨hgk, hg5⟩
      clear HL hgk hg5 t0 t1
      obtain ⟨QV, HQ⟩ : ∃ ad : Option Addr, Hid ((if cp = 1 then some ⟨g, off, none⟩ else some ⟨g, off + 1, none⟩) = ad) := ⟨_, rfl⟩
      have QQ : Hid (Que (w.heap.size + 2) wr (.slice QV L.length (cp - 1)) L) := by
        show Que _ _ _ _
        rw [← HQ.out]
        by_cases e : cp = 1
        · rw [if_pos e]; exact Q2 (by omega)
        · rw [if_neg e]; exact Q1
      clear Q1 Q2
      have HRK := HR.out.next HBw.out
      cases hS : S kt
      · rw [hS] at cs
        have HT : Hid (RS O A B C n (putB S kt) (L ++ sucL (O kt) (A kt) (B kt) (C kt) kt)) := rs_take_head HI.out.1 hk (fun t ht => (HB.out kt hk t ht).1)
        have HU : Hid (∀ t, t ∈ L ++ sucL (O kt) (A kt) (B kt) (C kt) kt → 0 ≤ t ∧ t < n) := fun t ht => by
          rcases List.mem_append.1 ht with h | h
          · exact HI.out.2.1 t (by simp [h])
          · exact HB.out kt hk t h
        have HV : Hid (∀ i, n ≤ i → putB S kt i = false) := fun i hi => by unfold putB; rw [if_neg (by omega)]; exact HI.out.2.2 i hi
        obtain ⟨w2, hw2⟩ : ∃ w2, wr.setCell ⟨w.heap.size + 1, kt, none⟩ (.bool true) = w2 := ⟨_, rfl⟩
        have K2 : Only (w.heap.size + 1) wr w2 := by rw [← hw2]; exact (Only.refl _ _).setCell _ _
        have HS2 : Hid (Own w2 (w.heap.size + 1) 600 (fun i => .bool (putB S kt i))) := by
          show Own _ _ _ _
          rw [← hw2]
          exact HS.out.set kt _ (by omega) (fun i hi => by unfold putB; by_cases e : i = kt
                                                           · rw [if_pos e, if_pos e]
                                                           · rw [if_neg e, if_neg e])
        have HZ2 : Hid (Own w2 w.heap.size 600 (fun _ => .bool false)) := HZ.out.but K2 (by omega)
        have QQ2 : Hid (Que (w.heap.size + 2) w2 (.slice QV L.length (cp - 1)) L) := QQ.out.only K2 (by omega)
        have HB2 : Hid (Below w.heap.size w w2) := HBw.out.trans (K2.below (by omega) HBw.out.size)
        have h49 := nexts49 n a cap kt O D A B C X w2 (HR.out.next HB2.out) hk n1
        have hcnt : Hid (cntF (putB S kt) n + 1 = cntF S n) := cnt_put S kt hS n hk
        have hsl : Hid ((sucL (O kt) (A kt) (B kt) (C kt) kt).length ≤ 3) := sucL_len _ _ _ _ _
        generalize sucL (O kt) (A kt) (B kt) (C kt) kt = M at HT HU h49 hsl
        clear HI HS HZ QQ HRK K2 HBw
        by_cases ec : cp = 1
        · have HQ1 : some ⟨g, off, none⟩ = QV := by have := HQ.out; rw [if_pos ec] at this; exact this
          subst ec
          subst HQ1
          obtain rfl : L = [] := List.eq_nil_of_length_eq_zero (by omega)
          have QQ2 : Hid (Que (w.heap.size + 2) w2 (.slice (some ⟨g, off, none⟩) 0 0) []) := QQ2
          clear HQ hcp m0 m1 m2 m3
          simp only [List.length_nil] at HGk ⊢
          go_wp2_with (first | (go_at_call 49; refine h49.mono ?_; rintro e w3 ⟨v3, rfl, I3, B3⟩) | (at_builtin; refine wpList_append_que rfl _ _ 54 rfl i3 Tryd.underlying54 hi3 hz30 hz31 hz32 (w.heap.size + 2) _ _ [] M rfl (QQ2.out.next B3) rfl I3.row ?_ ?_ ?_))
          · have := HS2.out.hi; have := B3.size; omega
          · have := HGk.out; have := hsl.out; have := hcnt.out; (try simp only [List.length_nil] at *); omega
          intro v4 w4 Q4 G4
          have S4 : Hid (Own w4 (w.heap.size + 1) 600 (fun i => .bool (putB S kt i))) := own_grown (HS2.out.next B3) G4 (by obtain ⟨_, _, _, hv, hq, _⟩ := QQ2.out; injection hv with hv _ _; injection hv with hv; injection hv with hv _ _; intro e; simp [Value.ownBlock] at e; omega)
          have Z4 : Hid (Own w4 w.heap.size 600 (fun _ => .bool false)) := own_grown (HZ2.out.next B3) G4 (by obtain ⟨_, _, _, hv, hq, _⟩ := QQ2.out; injection hv with hv _ _; injection hv with hv; injection hv with hv _ _; intro e; simp [Value.ownBlock] at e; omega)
          have B4 : Hid (Below w.heap.size w w4) := (HB2.out.trans (B3.mono HB2.out.size)).grown G4 (by have := HB2.out.size; have := B3.size; omega) (fun q hq => by obtain ⟨_, _, _, hv, hq2, _⟩ := QQ2.out; injection hv with hv _ _; injection hv with hv; injection hv with hv _ _; simp [Value.ownBlock] at hq; omega)
          have HQ4 : Hid (Que (w.heap.size + 2) w4 v4 ([] ++ M)) := Q4
          clear Q4 G4 I3 B3
          go_wp2
          go_roundg (4 * cntF (putB S kt) n + ([] ++ M).length)
          case measure => have := HGk.out; have := hsl.out; have := hcnt.out; (try simp only [List.length_append] at *); (try simp only [List.length_nil] at *); omega
          case rel => exact ⟨[] ++ M, putB S kt, _, rfl, rfl, HQ4, S4, Z4, ⟨HT.out, HU.out, HV.out⟩, B4, by have := HGk.out; have := hsl.out; have := hcnt.out; (try simp only [List.length_append] at *); (try simp only [List.length_nil] at *); omega⟩
        · have HQ1 : some ⟨g, off + 1, none⟩ = QV := by have := HQ.out; rw [if_neg ec] at this; exact this
          subst HQ1
          clear HQ
          go_wp2_with (first | (go_at_call 49; refine h49.mono ?_; rintro e w3 ⟨v3, rfl, I3, B3⟩) | (at_builtin; refine wpList_append_que rfl _ _ 54 rfl i3 Tryd.underlying54 hi3 hz30 hz31 hz32 (w.heap.size + 2) _ _ L M rfl (QQ2.out.next B3) rfl I3.row ?_ ?_ ?_))
          · have := HS2.out.hi; have := B3.size; omega
          · have := HGk.out; have := hsl.out; have := hcnt.out; (try simp only [List.length_nil] at *); omega
          intro v4 w4 Q4 G4
          have S4 : Hid (Own w4 (w.heap.size + 1) 600 (fun i => .bool (putB S kt i))) := own_grown (HS2.out.next B3) G4 (by obtain ⟨_, _, _, hv, hq, _⟩ := QQ2.out; injection hv with hv _ _; injection hv with hv; injection hv with hv _ _; intro e; simp [Value.ownBlock] at e; omega)
          have Z4 : Hid (Own w4 w.heap.size 600 (fun _ => .bool false)) := own_grown (HZ2.out.next B3) G4 (by obtain ⟨_, _, _, hv, hq, _⟩ := QQ2.out; injection hv with hv _ _; injection hv with hv; injection hv with hv _ _; intro e; simp [Value.ownBlock] at e; omega)
          have B4 : Hid (Below w.heap.size w w4) := (HB2.out.trans (B3.mono HB2.out.size)).grown G4 (by have := HB2.out.size; have := B3.size; omega) (fun q hq => by obtain ⟨_, _, _, hv, hq2, _⟩ := QQ2.out; injection hv with hv _ _; injection hv with hv; injection hv with hv _ _; simp [Value.ownBlock] at hq; omega)
          have HQ4 : Hid (Que (w.heap.size + 2) w4 v4 (L ++ M)) := Q4
          clear Q4 G4 I3 B3
          go_wp2
          go_roundg (4 * cntF (putB S kt) n + (L ++ M).length)
          case measure => have := HGk.out; have := hsl.out; have := hcnt.out; (try simp only [List.length_append] at *); (try simp only [List.length_nil] at *); omega
          case rel => exact ⟨L ++ M, putB S kt, _, rfl, rfl, HQ4, S4, Z4, ⟨HT.out, HU.out, HV.out⟩, B4, by have := HGk.out; have := hsl.out; have := hcnt.out; (try simp only [List.length_append] at *); (try simp only [List.length_nil] at *); omega⟩
      · rw [hS] at cs
        have HN : Hid (RS O A B C n S L ∧ (∀ t, t ∈ L → 0 ≤ t ∧ t < n) ∧ ∀ i, n ≤ i → S i = false) := ⟨rs_skip_head HI.out.1 (by simpa using hS) n0, fun t ht => HI.out.2.1 t (by simp [ht]), HI.out.2.2⟩
        clear HI HRK hS
        by_cases ec : cp = 1
        · have HQ1 : some ⟨g, off, none⟩ = QV := by have := HQ.out; rw [if_pos ec] at this; exact this
          subst ec
          subst HQ1
          obtain rfl : L = [] := List.eq_nil_of_length_eq_zero (by omega)
          have QQ : Hid (Que (w.heap.size + 2) wr (.slice (some ⟨g, off, none⟩) 0 0) []) := QQ
          clear HQ hcp m0 m1 m2 m3
          simp only [List.length_nil] at HGk ⊢
          go_wp2
          go_roundg (4 * cntF S n + ([] : List Int).length)
          case measure => have := HGk.out; (try simp only [List.length_nil] at *); omega
          case rel => exact ⟨[], S, _, rfl, rfl, QQ, HS, HZ, HN, HBw, by have := HGk.out; (try simp only [List.length_nil] at *); omega⟩
        · have HQ1 : some ⟨g, off + 1, none⟩ = QV := by have := HQ.out; rw [if_neg ec] at this; exact this
          subst HQ1
          clear HQ
          go_wp2
          go_roundg (4 * cntF S n + L.length)
          case measure => have := HGk.out; (try simp only [List.length_nil] at *); omega
          case rel => exact ⟨L, S, _, rfl, rfl, QQ, HS, HZ, HN, HBw, by have := HGk.out; (try simp only [List.length_nil] at *); omega⟩
end Go.Proofs.YtlfgboiejoiboaaDoor
