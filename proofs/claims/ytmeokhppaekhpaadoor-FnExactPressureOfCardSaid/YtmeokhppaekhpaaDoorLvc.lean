/- The program's livesBehind: the instructions behind which a register lives. -/
import Derived.Test.YtmeokhppaekhpaaDoorLvb
namespace Go.Proofs.YtmeokhppaekhpaaDoor
open Go.ChangeShapes Go.WideShapes Go.ChangeAt Go.RowKit
set_option linter.unusedVariables false
theorem Hid.mk {p : Prop} (h : p) : Hid p := h
theorem IOwn.low {B C : Nat} {w : World} {v : Value} {L : List Int} (h : IOwn B w v L) (hC : C ≤ B) : IOwn C w v L := by
  rcases h with h | ⟨g, c, h1, h2, h3, h4⟩
  · exact Or.inl h
  · exact Or.inr ⟨g, c, h1, h2, by omega, h4⟩
set_option maxRecDepth 100000 in
set_option maxHeartbeats 16000000 in
theorem lives44 (n a cap R r : Nat) (c : Cd) (K : LvOk c R) (hn : c.n = n) (w : World) (RI : RowI w a n c.O c.D c.A c.B c.C c.X) (g0 o0 cp0 : Nat) (Rd : List Int) (ORd : ∀ i, i < Rd.length → w.cell? ⟨g0, o0 + i, none⟩ = some (.int .i64 (Rd.getD i 0))) (hRd : ∀ t, t ∈ Rd ↔ 0 ≤ t ∧ t < n ∧ (r : Int) ∈ opsL (c.O t.toNat) (c.A t.toNat) (c.B t.toNat) (c.C t.toNat) (c.X t.toNat)) (lRd : Rd.length ≤ 1800) (av : Value) (P : Nat → List Int) (HA : ARows w av n P) (hP : ∀ t : Nat, t < n → ∀ k : Int, k ∈ P t ↔ 0 ≤ k ∧ k < n ∧ (t : Int) ∈ sucL (c.O k.toNat) (c.A k.toNat) (c.B k.toNat) (c.C k.toNat) k.toNat) (lP : ∀ t, t < n → (P t).length ≤ 1800) : Calls Tryd.prog 44 #[.slice (some ⟨a, 0, none⟩) n cap, .int .i64 (r : Int), .slice (some ⟨g0, o0, none⟩) Rd.length cp0, av] w fun e w' => ∃ v, e = .returned v ∧ IOwn w.heap.size w' v (whL (fun k => lbB c k r) n) ∧ Below w.heap.size w w' := by
  obtain ⟨i3, hi3, hz30, hz31, hz32⟩ := info_parts info3
  have z78 := zv44
  have n1 : n ≤ 600 := by rw [← hn]; exact K.n1
  have n0 : 1 ≤ n := by rw [← hn]; exact K.n0
  obtain ⟨ada, ca, rfl, HAI⟩ := HA
  obtain ⟨qa, oa, _, rfl, _⟩ := HAI 0 (by omega)
  have HAC : Hid (∀ i, i < n → ∃ ad2 c2, w.cell? ⟨qa, oa + i, none⟩ = some (.slice ad2 (P i).length c2) ∧ ∀ j, j < (P i).length → ∃ g o, ad2 = some ⟨g, o, none⟩ ∧ w.cell? ⟨g, o + j, none⟩ = some (.int .i64 ((P i).getD j 0))) := fun i hi => by
    obtain ⟨q, o, u, h1, h2, ad2, c2, rfl, h3⟩ := HAI i hi
    injection h1 with h1
    injection h1 with e1 e2
    subst e1
    subst e2
    exact ⟨ad2, c2, h2, h3⟩
  have HR : Hid (RowI w a n c.O c.D c.A c.B c.C c.X) := RI
  have HK : Hid (LvOk c R) := K
  have HN : Hid (c.n = n) := hn
  have HP : Hid (∀ t : Nat, t < n → ∀ k : Int, k ∈ P t ↔ 0 ≤ k ∧ k < n ∧ (t : Int) ∈ sucL (c.O k.toNat) (c.A k.toNat) (c.B k.toNat) (c.C k.toNat) k.toNat) := hP
  have HLP : Hid (∀ t, t < n → (P t).length ≤ 1800) := lP
  have HB0 : Hid (BO c r P (fun _ => false) Rd) := bo_begin c r P Rd (fun t => by rw [hn]; exact hRd t)
  have B1 : Below w.heap.size w (w.alloc (.cells (bits fun _ => false) 78)) := (Below.refl _ _).alloc (Nat.le_refl _) _
  have h67 := clone67 g0 o0 cp0 Rd (w.alloc (.cells (bits fun _ => false) 78)) (by omega) (fun i hi => cell_nx (ORd i hi) B1)
  have HO1 : Hid (Own (w.alloc (.cells (bits fun _ => false) 78)) w.heap.size 600 (fun _ => .bool false)) := own_vals w _ 600 78
  have HB1 : Hid (Below w.heap.size w (w.alloc (.cells (bits fun _ => false) 78))) := B1
  rw [World.size_alloc] at h67
  clear ORd hRd HAI hP lP RI K hn B1
  go_enter Tryd.func44, Tryd.ntmps44
  go_wp2_with (go_at_call 67; refine h67.mono ?_; rintro e w2 ⟨v2, rfl, hQ, B2⟩)
  have HQ2 : Hid ((Rd = [] ∧ ∃ ad c, v2 = .slice ad 0 c) ∨ Que (w.heap.size + 1) w2 v2 Rd) := hQ
  have B2' : Below (w.alloc (.cells (bits fun _ => false) 78)).heap.size (w.alloc (.cells (bits fun _ => false) 78)) w2 := by rw [World.size_alloc]; exact B2
  have HO2 : Hid (Own w2 w.heap.size 600 (fun _ => .bool false)) := HO1.out.next B2'
  have HB2 : Hid (Below w.heap.size w w2) := HB1.out.trans (B2.mono (by omega))
  clear hQ B2 B2' HO1 HB1 h67
  go_loopg [10] (cntF (fun _ => false) n + Rd.length) (fun gk vv wr => ∃ (L : List Int) (S : Nat → Bool) (u : Value), gk = cntF S n + L.length ∧ u = vv ∧ Hid ((L = [] ∧ ∃ ad c, u = .slice ad 0 c) ∨ Que (w.heap.size + 1) wr u L) ∧ Hid (Own wr w.heap.size 600 (fun i => .bool (S i))) ∧ Hid (BO c r P S L) ∧ Hid (Below w.heap.size w wr) ∧ gk ≤ 4000)
  case atStart => exact ⟨Rd, fun _ => false, _, rfl, rfl, HQ2, HO2, HB0, HB2, by have := cnt_le (fun _ => false) n; omega⟩
  case round =>
    obtain ⟨L0, S, u, hgk, rfl, HL, HS, HI, HBw, hg5⟩ := hrel
    clear HQ2 HO2 HB2 HB0
    cases L0 with
    | nil =>
      obtain ⟨ad, c0, rfl⟩ : ∃ ad c0, u = .slice ad 0 c0 := by
        rcases HL.out with ⟨_, h⟩ | ⟨g, off, cp, h, _⟩
        · exact h
        · exact ⟨_, _, h⟩
      have h69 := where69 n a cap w.heap.size c.O c.D c.A c.B c.C c.X S wr (HR.out.next HBw.out) n1 (fun i hi v b => in70 i w.heap.size _ _ _ _ _ _ S v (by omega) (HS.out.next b))
      rw [whL_ext (Z := S) (Y := fun k => lbB c k r) n (fun i hi => HI.out.fin (fun t ht k hk hs => (HP.out t (by rw [← HN.out]; exact ht) (k : Int)).2 ⟨by omega, by rw [← HN.out]; omega, by rw [Int.toNat_natCast]; exact hs⟩) i (by rw [HN.out]; exact hi))] at h69
      clear HL HS HI
      go_wp2_with (go_at_call 69; refine h69.mono ?_; rintro e w3 ⟨v3, rfl, I3, B3⟩)
      go_ret
      exact ⟨v3, rfl, I3.low HBw.out.size, HBw.out.trans (B3.mono HBw.out.size)⟩
    | cons t L =>
      have HL : Hid (Que (w.heap.size + 1) wr u (t :: L)) := by
        rcases HL.out with ⟨h, _⟩ | h
        · cases h
        · exact h
      obtain ⟨g, off, cp, rfl, _⟩ := id HL.out
      simp only [List.length_cons] at HL hgk ⊢
      obtain ⟨ct, Q1, Q2⟩ := HL.out.drop
      obtain ⟨t0, t1, _⟩ := HI.out.queue t (by simp)
      have hcp : L.length + 1 ≤ cp := by obtain ⟨_, _, _, hv, _, _, h, _⟩ := HL.out; injection hv with _ _ h3; subst h3; simpa using h
      obtain ⟨kt, rfl⟩ : ∃ kt : Nat, t = (kt : Int) := ⟨t.toNat, by omega⟩
      rw [HN.out] at t1
      have hk : kt < n := by omega
      have k6 : (kt : Int) < (n : Int) := by omega
      have k0 : (0 : Int) ≤ (kt : Int) := by omega
      have m0 : (0 : Int) < ((L.length + 1 : Nat) : Int) := by omega
      have m1 : (1 : Int) ≤ ((L.length + 1 : Nat) : Int) := by omega
      have m2 : (0 : Int) < (L.length : Int) + 1 := by omega
      have m3 : (1 : Int) ≤ (L.length : Int) + 1 := by omega
      have BI0 : Hid (BI c r P S L kt 0) := HI.out.pop
      have HM0 : Hid (cntF S n + L.length + 1 ≤ gk) := by show _ ≤ _; omega
      obtain ⟨ad2, c2, ca0, HC⟩ := HAC.out kt hk
      have ca1 := cell_nx ca0 HBw.out
      have HC2 : Hid (∀ j, j < (P kt).length → ∃ g o, ad2 = some ⟨g, o, none⟩ ∧ w.cell? ⟨g, o + j, none⟩ = some (.int .i64 ((P kt).getD j 0))) := HC
      have hml0 := HLP.out kt hk
      obtain ⟨ml, hml⟩ : ∃ ml, (P kt).length = ml := ⟨_, rfl⟩
      have HML : Hid ((P kt).length = ml) := hml
      rw [hml] at ca1 hml0
      clear HL hgk t0 t1 HI HC ca0 hml
      by_cases ec : cp = 1
      · subst ec
        obtain rfl : L = [] := List.eq_nil_of_length_eq_zero (by omega)
        have QQ : Hid (Que (w.heap.size + 1) wr (.slice (some ⟨g, off, none⟩) 0 0) []) := Q2 (by omega)
        clear Q1 Q2 hcp m0 m1 m2 m3
        simp only [List.length_nil, Nat.zero_add]
        go_wp2
        clear ca1 ct
        go_loopw [10, 29] (fun vv i wx => ∃ (j : Nat) (L : List Int) (S : Nat → Bool) (u : Value), j ≤ ml ∧ i = .int .i64 j ∧ u = vv ∧ Hid (Que (w.heap.size + 1) wx u L) ∧ Hid (Own wx w.heap.size 600 (fun i => .bool (S i))) ∧ Hid (BI c r P S L kt j) ∧ Hid (Below w.heap.size w wx) ∧ Hid (cntF S n + L.length + 1 ≤ gk)) (fun _ i _ => ml - (intOf i).toNat)
        case atStart => exact ⟨0, _, S, _, Nat.zero_le _, rfl, rfl, QQ, HS, BI0, HBw, HM0⟩
        case round =>
          obtain ⟨j, L, S, u, hj, rfl, rfl, QQ, HS, BJ, HBw, HM⟩ := hrel
          clear BI0 HM0
          by_cases hjm : j < ml
          · have j1 : (j : Int) < (ml : Int) := by omega
            have j0 : (0 : Int) ≤ (j : Int) := by omega
            have hjl : j < (P kt).length := by rw [HML.out]; exact hjm
            obtain ⟨g2, o2, rfl, ct⟩ := HC2.out j hjl
            have ct := cell_nx ct HBw.out
            obtain ⟨t0, t1, ts⟩ := (HP.out kt hk ((P kt).getD j 0)).1 (by simp [List.getD, hjl])
            obtain ⟨x, hx⟩ : ∃ x : Nat, (P kt).getD j 0 = (x : Int) := ⟨((P kt).getD j 0).toNat, by omega⟩
            have HX : Hid ((P kt).getD j 0 = (x : Int)) := hx
            rw [hx] at ct t0 t1 ts
            rw [Int.toNat_natCast] at ts
            have HTS : Hid ((kt : Int) ∈ sucL (c.O x) (c.A x) (c.B x) (c.C x) x) := ts
            have hxn : x < n := by omega
            have hxc : x < c.n := by rw [HN.out]; exact hxn
            have hktc : kt < c.n := by rw [HN.out]; exact hk
            have x6 : (x : Int) < 600 := by omega
            have x0 : (0 : Int) ≤ (x : Int) := by omega
            have x7 : (x : Int) < (n : Int) := by omega
            have cs := HS.out.cell x (by omega)
            have fs := HS.out.free x
            have hput : ∀ i, i < 600 → Value.bool (putB S x i) = if i = x then .bool true else .bool (S i) := fun i hi => by
              unfold putB
              by_cases e : i = x
              · rw [if_pos e, if_pos e]
              · rw [if_neg e, if_neg e]
            have HPut := Hid.mk hput
            have HCL : Hid (cntF (putB S x) n ≤ cntF S n) := cnt_le2 S x n hxn
            clear t0 t1 ts hx hput
            cases hS : S x
            · rw [hS] at cs
              have HSx : Hid (S x = false) := hS
              have HCP : Hid (cntF (putB S x) n + 1 = cntF S n) := cnt_put S x hS n hxn
              have RK := HR.out.next HBw.out
              have c0 := RK.c0 x hxn
              have c1 := RK.c1 x hxn
              have c2 := RK.c2 x hxn
              have c3 := RK.c3 x hxn
              have c4 := RK.c4 x hxn
              have c5 := RK.c5 x hxn
              have h68 := writesTo68 (c.O x) (c.D x) (c.A x) (c.B x) (c.C x) (c.X x) (r : Int) wr
              have HW : Hid ((nmd (c.O x) 0 && (c.D x == (r : Int))) = true ↔ c.wr x r) := by
                show _ ↔ _
                rw [Bool.and_eq_true, beq_iff_eq]
                unfold Cd.wr
                constructor
                · rintro ⟨h1, h2⟩
                  exact ⟨h1, by omega⟩
                · rintro ⟨h1, h2⟩
                  have := HK.out.wr x hxc h1
                  exact ⟨h1, by omega⟩
              generalize (nmd (c.O x) 0 && (c.D x == (r : Int))) = wv at h68 HW
              clear RK hS
              cases wv
              · have HWN : Hid (¬ c.wr x r) := fun h => by have := HW.out.2 h; cases this
                go_wp2_with (first | (go_at_call 68; refine h68.mono ?_; rintro e w3 ⟨rfl, B3⟩; (obtain ⟨w4, hw4⟩ : ∃ w4, w3.alloc (.cells #[.int .i64 (x : Int)] 3) = w4 := ⟨_, rfl⟩); (have B4 : Below w3.heap.size w3 w4 := by rw [← hw4]; exact (Below.refl _ _).alloc (Nat.le_refl _) _); (have R4 : IRow w4 (.slice (some ⟨w3.heap.size, 0, none⟩) 1 1) [(x : Int)] := by rw [← hw4]; exact Or.inr ⟨_, 1, rfl, Nat.le_refl _, ints_new w3 [(x : Int)]⟩)) | (at_builtin; refine wpList_append_que rfl _ _ 40 rfl i3 Tryd.underlying40 hi3 hz30 hz31 hz32 (w.heap.size + 1) _ _ L [(x : Int)] rfl ((QQ.out.next B3).next B4) rfl R4 ?_ ?_ ?_))
                · have := HS.out.hi; have := B3.size; have := B4.size; omega
                · have := HM.out; have := hg5; simp only [List.length_cons, List.length_nil]; omega
                intro v5 w5 Q5 G5
                clear hw4
                have S5 : Own w5 w.heap.size 600 (fun i => .bool (S i)) := own_grown ((HS.out.next B3).next B4) G5 (by obtain ⟨_, _, _, hv, hq, _⟩ := QQ.out; rw [hv]; intro e; simp [Value.ownBlock] at e; omega)
                have B5 : Below w.heap.size w w5 := ((HBw.out.trans (B3.mono HBw.out.size)).trans (B4.mono (by have := HBw.out.size; have := B3.size; omega))).grown G5 (by have := HBw.out.size; have := B3.size; have := B4.size; omega) (fun q hq => by obtain ⟨_, _, _, hv, hq2, _⟩ := QQ.out; rw [hv] at hq; simp [Value.ownBlock] at hq; omega)
                have K5 : Only w.heap.size w5 (w5.setCell ⟨w.heap.size, x, none⟩ (.bool true)) := (Only.refl _ _).setCell _ _
                have cs5 := S5.cell x (by omega)
                have fs5 := S5.free x
                have S6 : Hid (Own (w5.setCell ⟨w.heap.size, x, none⟩ (.bool true)) w.heap.size 600 (fun i => .bool (putB S x i))) := S5.set x _ (by omega) HPut.out
                have Q6 : Hid (Que (w.heap.size + 1) (w5.setCell ⟨w.heap.size, x, none⟩ (.bool true)) v5 (L ++ [(x : Int)])) := Q5.only K5 (by omega)
                have B6 : Hid (Below w.heap.size w (w5.setCell ⟨w.heap.size, x, none⟩ (.bool true))) := B5.setCell (p := ⟨w.heap.size, x, none⟩) (Nat.le_refl _) _
                have BN : Hid (BI c r P (putB S x) (L ++ [(x : Int)]) kt (j + 1)) := BJ.out.step hktc hjl HX.out hxc HTS.out (Or.inl ⟨HSx.out, HWN.out, rfl⟩)
                have HMN : Hid (cntF (putB S x) n + (L ++ [(x : Int)]).length + 1 ≤ gk) := by show _ ≤ _; rw [List.length_append]; have := HCP.out; have := HM.out; simp only [List.length_cons, List.length_nil]; omega
                rw [HSx.out] at cs5
                clear QQ HS BJ HBw HM S5 B5 K5 Q5 G5 R4 B3 B4 cs fs
                go_wp2
                go_roundw
                case rel => exact ⟨j + 1, _, _, _, by omega, by go_num, rfl, Q6, S6, BN, B6, HMN⟩
                case measure => simp [intOf]; omega
              · have HWN : Hid (c.wr x r) := HW.out.1 rfl
                have BN : Hid (BI c r P (putB S x) L kt (j + 1)) := BJ.out.step hktc hjl HX.out hxc HTS.out (Or.inr ⟨Or.inr HWN.out, rfl⟩)
                have HMN : Hid (cntF (putB S x) n + L.length + 1 ≤ gk) := by show _ ≤ _; have := HCL.out; have := HM.out; omega
                clear BJ HM
                go_wp2_with (go_at_call 68; refine h68.mono ?_; rintro e w3 ⟨rfl, B3⟩; (have cs3 := (HS.out.next B3).cell x (by omega)); (have fs3 := (HS.out.next B3).free x))
                have K5 : Only w.heap.size w3 (w3.setCell ⟨w.heap.size, x, none⟩ (.bool true)) := (Only.refl _ _).setCell _ _
                have S6 : Hid (Own (w3.setCell ⟨w.heap.size, x, none⟩ (.bool true)) w.heap.size 600 (fun i => .bool (putB S x i))) := (HS.out.next B3).set x _ (by omega) HPut.out
                have Q6 : Hid (Que (w.heap.size + 1) (w3.setCell ⟨w.heap.size, x, none⟩ (.bool true)) u L) := (QQ.out.next B3).only K5 (by omega)
                have B6 : Hid (Below w.heap.size w (w3.setCell ⟨w.heap.size, x, none⟩ (.bool true))) := (HBw.out.trans (B3.mono HBw.out.size)).setCell (p := ⟨w.heap.size, x, none⟩) (Nat.le_refl _) _
                clear QQ HS HBw K5 B3
                go_roundw
                case rel => exact ⟨j + 1, _, _, _, by omega, by go_num, rfl, Q6, S6, BN, B6, HMN⟩
                case measure => simp [intOf]; omega
            · rw [hS] at cs
              have BN : Hid (BI c r P (putB S x) L kt (j + 1)) := BJ.out.step hktc hjl HX.out hxc HTS.out (Or.inr ⟨Or.inl hS, rfl⟩)
              have HMN : Hid (cntF (putB S x) n + L.length + 1 ≤ gk) := by show _ ≤ _; have := HCL.out; have := HM.out; omega
              have K5 : Only w.heap.size wr (wr.setCell ⟨w.heap.size, x, none⟩ (.bool true)) := (Only.refl _ _).setCell _ _
              have S6 : Hid (Own (wr.setCell ⟨w.heap.size, x, none⟩ (.bool true)) w.heap.size 600 (fun i => .bool (putB S x i))) := HS.out.set x _ (by omega) HPut.out
              have Q6 : Hid (Que (w.heap.size + 1) (wr.setCell ⟨w.heap.size, x, none⟩ (.bool true)) u L) := QQ.out.only K5 (by omega)
              have B6 : Hid (Below w.heap.size w (wr.setCell ⟨w.heap.size, x, none⟩ (.bool true))) := HBw.out.setCell (p := ⟨w.heap.size, x, none⟩) (Nat.le_refl _) _
              clear BJ HM QQ HS HBw K5 hS
              go_wp2
              go_roundw
              case rel => exact ⟨j + 1, _, _, _, by omega, by go_num, rfl, Q6, S6, BN, B6, HMN⟩
              case measure => simp [intOf]; omega
          · obtain rfl : ml = j := by omega
            have j1 : ¬ (ml : Int) < (ml : Int) := by omega
            have BE : Hid (BO c r P S L) := by
              have := BJ.out
              rw [← HML.out] at this
              exact this.full
            clear BJ
            go_wp2
            go_roundg (cntF S n + L.length)
            case measure => have := HM.out; omega
            case rel => exact ⟨L, S, _, rfl, rfl, Or.inr QQ.out, HS, BE, HBw, by have := HM.out; omega⟩
      · have QQ : Hid (Que (w.heap.size + 1) wr (.slice (some ⟨g, off + 1, none⟩) L.length (cp - 1)) L) := Q1
        have e1 : ¬ cp = 1 := ec
        clear Q1 Q2
        go_wp2
        clear ca1 ct
        go_loopw [10, 29] (fun vv i wx => ∃ (j : Nat) (L : List Int) (S : Nat → Bool) (u : Value), j ≤ ml ∧ i = .int .i64 j ∧ u = vv ∧ Hid (Que (w.heap.size + 1) wx u L) ∧ Hid (Own wx w.heap.size 600 (fun i => .bool (S i))) ∧ Hid (BI c r P S L kt j) ∧ Hid (Below w.heap.size w wx) ∧ Hid (cntF S n + L.length + 1 ≤ gk)) (fun _ i _ => ml - (intOf i).toNat)
        case atStart => exact ⟨0, _, S, _, Nat.zero_le _, rfl, rfl, QQ, HS, BI0, HBw, HM0⟩
        case round =>
          obtain ⟨j, L, S, u, hj, rfl, rfl, QQ, HS, BJ, HBw, HM⟩ := hrel
          clear BI0 HM0
          by_cases hjm : j < ml
          · have j1 : (j : Int) < (ml : Int) := by omega
            have j0 : (0 : Int) ≤ (j : Int) := by omega
            have hjl : j < (P kt).length := by rw [HML.out]; exact hjm
            obtain ⟨g2, o2, rfl, ct⟩ := HC2.out j hjl
            have ct := cell_nx ct HBw.out
            obtain ⟨t0, t1, ts⟩ := (HP.out kt hk ((P kt).getD j 0)).1 (by simp [List.getD, hjl])
            obtain ⟨x, hx⟩ : ∃ x : Nat, (P kt).getD j 0 = (x : Int) := ⟨((P kt).getD j 0).toNat, by omega⟩
            have HX : Hid ((P kt).getD j 0 = (x : Int)) := hx
            rw [hx] at ct t0 t1 ts
            rw [Int.toNat_natCast] at ts
            have HTS : Hid ((kt : Int) ∈ sucL (c.O x) (c.A x) (c.B x) (c.C x) x) := ts
            have hxn : x < n := by omega
            have hxc : x < c.n := by rw [HN.out]; exact hxn
            have hktc : kt < c.n := by rw [HN.out]; exact hk
            have x6 : (x : Int) < 600 := by omega
            have x0 : (0 : Int) ≤ (x : Int) := by omega
            have x7 : (x : Int) < (n : Int) := by omega
            have cs := HS.out.cell x (by omega)
            have fs := HS.out.free x
            have hput : ∀ i, i < 600 → Value.bool (putB S x i) = if i = x then .bool true else .bool (S i) := fun i hi => by
              unfold putB
              by_cases e : i = x
              · rw [if_pos e, if_pos e]
              · rw [if_neg e, if_neg e]
            have HPut := Hid.mk hput
            have HCL : Hid (cntF (putB S x) n ≤ cntF S n) := cnt_le2 S x n hxn
            clear t0 t1 ts hx hput
            cases hS : S x
            · rw [hS] at cs
              have HSx : Hid (S x = false) := hS
              have HCP : Hid (cntF (putB S x) n + 1 = cntF S n) := cnt_put S x hS n hxn
              have RK := HR.out.next HBw.out
              have c0 := RK.c0 x hxn
              have c1 := RK.c1 x hxn
              have c2 := RK.c2 x hxn
              have c3 := RK.c3 x hxn
              have c4 := RK.c4 x hxn
              have c5 := RK.c5 x hxn
              have h68 := writesTo68 (c.O x) (c.D x) (c.A x) (c.B x) (c.C x) (c.X x) (r : Int) wr
              have HW : Hid ((nmd (c.O x) 0 && (c.D x == (r : Int))) = true ↔ c.wr x r) := by
                show _ ↔ _
                rw [Bool.and_eq_true, beq_iff_eq]
                unfold Cd.wr
                constructor
                · rintro ⟨h1, h2⟩
                  exact ⟨h1, by omega⟩
                · rintro ⟨h1, h2⟩
                  have := HK.out.wr x hxc h1
                  exact ⟨h1, by omega⟩
              generalize (nmd (c.O x) 0 && (c.D x == (r : Int))) = wv at h68 HW
              clear RK hS
              cases wv
              · have HWN : Hid (¬ c.wr x r) := fun h => by have := HW.out.2 h; cases this
                go_wp2_with (first | (go_at_call 68; refine h68.mono ?_; rintro e w3 ⟨rfl, B3⟩; (obtain ⟨w4, hw4⟩ : ∃ w4, w3.alloc (.cells #[.int .i64 (x : Int)] 3) = w4 := ⟨_, rfl⟩); (have B4 : Below w3.heap.size w3 w4 := by rw [← hw4]; exact (Below.refl _ _).alloc (Nat.le_refl _) _); (have R4 : IRow w4 (.slice (some ⟨w3.heap.size, 0, none⟩) 1 1) [(x : Int)] := by rw [← hw4]; exact Or.inr ⟨_, 1, rfl, Nat.le_refl _, ints_new w3 [(x : Int)]⟩)) | (at_builtin; refine wpList_append_que rfl _ _ 40 rfl i3 Tryd.underlying40 hi3 hz30 hz31 hz32 (w.heap.size + 1) _ _ L [(x : Int)] rfl ((QQ.out.next B3).next B4) rfl R4 ?_ ?_ ?_))
                · have := HS.out.hi; have := B3.size; have := B4.size; omega
                · have := HM.out; have := hg5; simp only [List.length_cons, List.length_nil]; omega
                intro v5 w5 Q5 G5
                clear hw4
                have S5 : Own w5 w.heap.size 600 (fun i => .bool (S i)) := own_grown ((HS.out.next B3).next B4) G5 (by obtain ⟨_, _, _, hv, hq, _⟩ := QQ.out; rw [hv]; intro e; simp [Value.ownBlock] at e; omega)
                have B5 : Below w.heap.size w w5 := ((HBw.out.trans (B3.mono HBw.out.size)).trans (B4.mono (by have := HBw.out.size; have := B3.size; omega))).grown G5 (by have := HBw.out.size; have := B3.size; have := B4.size; omega) (fun q hq => by obtain ⟨_, _, _, hv, hq2, _⟩ := QQ.out; rw [hv] at hq; simp [Value.ownBlock] at hq; omega)
                have K5 : Only w.heap.size w5 (w5.setCell ⟨w.heap.size, x, none⟩ (.bool true)) := (Only.refl _ _).setCell _ _
                have cs5 := S5.cell x (by omega)
                have fs5 := S5.free x
                have S6 : Hid (Own (w5.setCell ⟨w.heap.size, x, none⟩ (.bool true)) w.heap.size 600 (fun i => .bool (putB S x i))) := S5.set x _ (by omega) HPut.out
                have Q6 : Hid (Que (w.heap.size + 1) (w5.setCell ⟨w.heap.size, x, none⟩ (.bool true)) v5 (L ++ [(x : Int)])) := Q5.only K5 (by omega)
                have B6 : Hid (Below w.heap.size w (w5.setCell ⟨w.heap.size, x, none⟩ (.bool true))) := B5.setCell (p := ⟨w.heap.size, x, none⟩) (Nat.le_refl _) _
                have BN : Hid (BI c r P (putB S x) (L ++ [(x : Int)]) kt (j + 1)) := BJ.out.step hktc hjl HX.out hxc HTS.out (Or.inl ⟨HSx.out, HWN.out, rfl⟩)
                have HMN : Hid (cntF (putB S x) n + (L ++ [(x : Int)]).length + 1 ≤ gk) := by show _ ≤ _; rw [List.length_append]; have := HCP.out; have := HM.out; simp only [List.length_cons, List.length_nil]; omega
                rw [HSx.out] at cs5
                clear QQ HS BJ HBw HM S5 B5 K5 Q5 G5 R4 B3 B4 cs fs
                go_wp2
                go_roundw
                case rel => exact ⟨j + 1, _, _, _, by omega, by go_num, rfl, Q6, S6, BN, B6, HMN⟩
                case measure => simp [intOf]; omega
              · have HWN : Hid (c.wr x r) := HW.out.1 rfl
                have BN : Hid (BI c r P (putB S x) L kt (j + 1)) := BJ.out.step hktc hjl HX.out hxc HTS.out (Or.inr ⟨Or.inr HWN.out, rfl⟩)
                have HMN : Hid (cntF (putB S x) n + L.length + 1 ≤ gk) := by show _ ≤ _; have := HCL.out; have := HM.out; omega
                clear BJ HM
                go_wp2_with (go_at_call 68; refine h68.mono ?_; rintro e w3 ⟨rfl, B3⟩; (have cs3 := (HS.out.next B3).cell x (by omega)); (have fs3 := (HS.out.next B3).free x))
                have K5 : Only w.heap.size w3 (w3.setCell ⟨w.heap.size, x, none⟩ (.bool true)) := (Only.refl _ _).setCell _ _
                have S6 : Hid (Own (w3.setCell ⟨w.heap.size, x, none⟩ (.bool true)) w.heap.size 600 (fun i => .bool (putB S x i))) := (HS.out.next B3).set x _ (by omega) HPut.out
                have Q6 : Hid (Que (w.heap.size + 1) (w3.setCell ⟨w.heap.size, x, none⟩ (.bool true)) u L) := (QQ.out.next B3).only K5 (by omega)
                have B6 : Hid (Below w.heap.size w (w3.setCell ⟨w.heap.size, x, none⟩ (.bool true))) := (HBw.out.trans (B3.mono HBw.out.size)).setCell (p := ⟨w.heap.size, x, none⟩) (Nat.le_refl _) _
                clear QQ HS HBw K5 B3
                go_roundw
                case rel => exact ⟨j + 1, _, _, _, by omega, by go_num, rfl, Q6, S6, BN, B6, HMN⟩
                case measure => simp [intOf]; omega
            · rw [hS] at cs
              have BN : Hid (BI c r P (putB S x) L kt (j + 1)) := BJ.out.step hktc hjl HX.out hxc HTS.out (Or.inr ⟨Or.inl hS, rfl⟩)
              have HMN : Hid (cntF (putB S x) n + L.length + 1 ≤ gk) := by show _ ≤ _; have := HCL.out; have := HM.out; omega
              have K5 : Only w.heap.size wr (wr.setCell ⟨w.heap.size, x, none⟩ (.bool true)) := (Only.refl _ _).setCell _ _
              have S6 : Hid (Own (wr.setCell ⟨w.heap.size, x, none⟩ (.bool true)) w.heap.size 600 (fun i => .bool (putB S x i))) := HS.out.set x _ (by omega) HPut.out
              have Q6 : Hid (Que (w.heap.size + 1) (wr.setCell ⟨w.heap.size, x, none⟩ (.bool true)) u L) := QQ.out.only K5 (by omega)
              have B6 : Hid (Below w.heap.size w (wr.setCell ⟨w.heap.size, x, none⟩ (.bool true))) := HBw.out.setCell (p := ⟨w.heap.size, x, none⟩) (Nat.le_refl _) _
              clear BJ HM QQ HS HBw K5 hS
              go_wp2
              go_roundw
              case rel => exact ⟨j + 1, _, _, _, by omega, by go_num, rfl, Q6, S6, BN, B6, HMN⟩
              case measure => simp [intOf]; omega
          · obtain rfl : ml = j := by omega
            have j1 : ¬ (ml : Int) < (ml : Int) := by omega
            have BE : Hid (BO c r P S L) := by
              have := BJ.out
              rw [← HML.out] at this
              exact this.full
            clear BJ
            go_wp2
            go_roundg (cntF S n + L.length)
            case measure => have := HM.out; omega
            case rel => exact ⟨L, S, _, rfl, rfl, Or.inr QQ.out, HS, BE, HBw, by have := HM.out; omega⟩
end Go.Proofs.YtmeokhppaekhpaaDoor
