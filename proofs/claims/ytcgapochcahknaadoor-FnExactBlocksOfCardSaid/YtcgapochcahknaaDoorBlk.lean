/- l14Blocks, stretches and BlocksOf of both sides. -/
import Derived.Test.YtcgapochcahknaaDoorBlm
import Derived.Test.YtcgapochcahknaaDoorNed
import Derived.Test.YtcgapochcahknaaDoorGd
namespace Go.Proofs.YtcgapochcahknaaDoor
open Go.ChangeShapes Go.WideShapes Go.ChangeAt Go.RowKit
set_option linter.unusedVariables false
theorem free_cut (o : Int) : freeB o = !cutO o := by
  unfold freeB cutO
  cases (o == 8) <;> cases (o == 9) <;> cases (o == 10) <;> cases (o == 11) <;> rfl
theorem own_gr {w w' : World} {o n : Nat} {F : Nat → Value} {r : Option Nat} (h : Own w o n F) (k : w.grownBy w' r) (hn : some o ≠ r) : Own w' o n F := by
  have z := k.block o h.hi hn
  exact ⟨fun i hi => (World.cell?_of_block (a := ⟨o, i, none⟩) z).trans (h.cell i hi), fun i => (World.frozen?_of_block (a := ⟨o, i, none⟩) z).trans (h.free i), Nat.lt_of_lt_of_le h.hi k.size⟩
theorem own_2 {B t s : Nat} {w : World} {u : Value} {n : Nat} {xs : List Value} (h : w.ownsRow B t s u n xs) (a b : Obj) : ((w.alloc a).alloc b).ownsRow B t s u n xs := by
  have k : Below w.heap.size w ((w.alloc a).alloc b) := ((Below.refl _ _).alloc (Nat.le_refl _) _).alloc (by simp) _
  exact h.kept (row := none) ⟨k.os, k.tape, k.output, k.size, fun i hi _ => k.block i hi⟩ (by cases e : u.ownBlock <;> simp)
theorem base_2 {B : Nat} {w : World} (h : B ≤ w.heap.size) (a b : Obj) : B ≤ ((w.alloc a).alloc b).heap.size := by simp only [World.size_alloc]; omega
theorem cell_two (w : World) (a : Obj) (v : Value) (t H : Nat) (h : (w.alloc a).heap.size = H) : ∀ j u, [v][j]? = some u → ((w.alloc a).alloc (.cells #[v] t)).cell? ((⟨H, 0, none⟩ : Addr).add j) = some u := fun j u hj => by
  subst h
  match j, hj with
  | 0, hj => simp at hj; subst hj; simp [Addr.add]
theorem sl_one (ad : Option Addr) : ∀ u ∈ [Value.slice ad 2 2], u.oneCell' = true := by
  intro u hu; simp at hu; subst hu; rfl
theorem Ok.tg {c : Cd} (K : Ok c) (k : Nat) (hk : k < c.n) (t : Int) (ht : t ∈ tgL (c.O k) (c.A k) (c.B k) (c.C k)) : 0 ≤ t ∧ t < c.n := by
  have hT := K.tgs k hk
  unfold tgL at ht
  split at ht
  · rename_i e
    have := hT.1 e
    have : t = c.A k := by simpa using ht
    omega
  · split at ht
    · rename_i e
      have := hT.2 e
      have : t = c.B k ∨ t = c.C k := by simpa using ht
      omega
    · simp at ht
theorem bm_slice {B : Nat} {w : World} {u : Value} {s : Sb} {p : Nat → Nat} (h : Bm B w u s p) : ∃ a n c, u = .slice a n c := by
  rcases h.own.2 with ⟨h1, _⟩ | ⟨g, c, cur, h1, _⟩
  · exact ⟨_, _, _, h1⟩
  · exact ⟨_, _, _, h1⟩
theorem info45 : (Tryd.prog.info? 45).map (fun i => (i.zero, i.size, i.bytes)) = some (some (.slice none 0 0), 1, 24) := by kernel_rfl
set_option maxRecDepth 100000 in
set_option maxHeartbeats 8000000 in
theorem mblocks (a cap : Nat) (c : Cd) (K : Ok c) (w : World) (R : RowI w a c.n c.O c.D c.A c.B c.C c.X) : Calls Tryd.prog 55 #[.slice (some ⟨a, 0, none⟩) c.n cap] w fun e w' => ∃ u p, e = .returned u ∧ Bm w.heap.size w' u (c.bS c.n) p ∧ Below w.heap.size w w' := by
  obtain ⟨i6, hi6, hz60, hz61, hz62⟩ := info_parts info45
  have h59 := begins54 c.n a cap c.O c.D c.A c.B c.C c.X w R K.n1 K.tg
  have HR := Hid.mk R
  have hn6 := K.n1
  obtain ⟨n, hn2⟩ : ∃ n, c.n = n := ⟨_, rfl⟩
  have HN : Hid (c.n = n) := hn2
  rw [hn2] at hn6 h59 HR ⊢
  clear hn2 R K 
  go_enter Tryd.func55, Tryd.ntmps55
  go_wp2_with (go_at_call 59; refine h59.mono ?_; rintro e w2 ⟨rfl, O2, b2⟩)
  obtain ⟨q, hq⟩ : ∃ q, w.heap.size = q := ⟨_, rfl⟩
  have B2 : Hid (Below w.heap.size w w2) := b2
  have HB0 : Hid (w.heap.size ≤ w2.heap.size) := b2.size
  have HB1 : Hid (q < w2.heap.size) := by have := O2.hi; show _ < _; omega
  have K2 : Hid (Own w2 q (n + 1) (fun i => .bool (bgF c.O c.A c.B c.C n i))) := by show Own _ _ _ _; rw [← hq]; exact O2
  rw [hq]
  clear hq O2 b2 h59
  have S2 : Hid (c.bS 0 = ⟨0, fun _ => 0, fun _ => 0⟩) := rfl
  have M2 : Hid (Bm w2.heap.size w2 (.slice none 0 0) ⟨0, fun _ => 0, fun _ => 0⟩ (fun _ => 0)) := bm_nil w2
  obtain ⟨B0, hB0⟩ : ∃ B0, w2.heap.size = B0 := ⟨_, rfl⟩
  rw [hB0] at M2 HB0 HB1
  clear hB0
  go_wp2
  go_loopw [4, 12] (fun vv i wr => ∃ (k m : Nat) (f l p : Nat → Nat) (u : Value), k ≤ n ∧ i = .int .i64 k ∧ u = vv ∧ Hid (c.bS k = ⟨m, f, l⟩) ∧ Hid (Bm B0 wr u ⟨m, f, l⟩ p) ∧ Hid (Below w.heap.size w wr) ∧ Hid (Own wr q (n + 1) (fun i => .bool (bgF c.O c.A c.B c.C n i)))) (fun _ i _ => n - (intOf i).toNat)
  case atStart => exact ⟨0, 0, _, _, _, _, Nat.zero_le _, rfl, rfl, S2, M2, B2, K2⟩
  case round =>
    obtain ⟨k, m, f, l, p, u, hk, rfl, rfl, HS, HM, HB, HK⟩ := hrel
    clear S2 M2 B2 K2
    by_cases hkn : k < n
    · have j1 : (k : Int) < (n : Int) := by omega
      have j0 : (0 : Int) ≤ (k : Int) := by omega
      have j2 : (k : Int) < (n : Int) + 1 := by omega
      have j3 : (k : Int) < 600 := by omega
      have hkc : k < c.n := by rw [HN.out]; exact hkn
      have RW := HR.out.next HB.out
      have e0 := RW.c0 k hkn
      have e1 := RW.c1 k hkn
      have e2 := RW.c2 k hkn
      have e3 := RW.c3 k hkn
      have e4 := RW.c4 k hkn
      have e5 := RW.c5 k hkn
      have h78 := fun v => mfree (c.O k) v
      have hfr : freeB (c.O k) = !cutO (c.O k) := free_cut (c.O k)
      rw [hfr] at h78
      clear hfr
      have BAl : Below wr.heap.size wr (wr.alloc (.cells #[.int .i64 (c.O k), .int .i64 (c.D k), .int .i64 (c.A k), .int .i64 (c.B k), .int .i64 (c.C k), .int .u32 (c.X k)] 35)) := alloc_b
      have HM2 : Hid (Bm B0 (wr.alloc (.cells #[.int .i64 (c.O k), .int .i64 (c.D k), .int .i64 (c.A k), .int .i64 (c.B k), .int .i64 (c.C k), .int .u32 (c.X k)] 35)) u ⟨m, f, l⟩ p) := HM.out.next BAl
      have HB2 : Hid (Below w.heap.size w (wr.alloc (.cells #[.int .i64 (c.O k), .int .i64 (c.D k), .int .i64 (c.A k), .int .i64 (c.B k), .int .i64 (c.C k), .int .u32 (c.X k)] 35))) := HB.out.trans (BAl.mono HB.out.size)
      have HK2 : Hid (Own (wr.alloc (.cells #[.int .i64 (c.O k), .int .i64 (c.D k), .int .i64 (c.A k), .int .i64 (c.B k), .int .i64 (c.C k), .int .u32 (c.X k)] 35)) q (n + 1) (fun i => .bool (bgF c.O c.A c.B c.C n i))) := HK.out.next BAl
      have bm : m ≤ k := by have := (c.bi k).m; rw [HS.out] at this; exact this
      clear RW BAl HM HB HK
      have kb0 := HK2.out.cell k (by omega)
      have kb : (wr.alloc (.cells #[.int .i64 (c.O k), .int .i64 (c.D k), .int .i64 (c.A k), .int .i64 (c.B k), .int .i64 (c.C k), .int .u32 (c.X k)] 35)).cell? ⟨q, k, none⟩ = some (.bool (c.bg k)) := by rw [kb0]; show some (Value.bool _) = _; rw [show bgF c.O c.A c.B c.C n k = c.bg k by unfold Cd.bg; rw [HN.out]]
      clear kb0
      cases hcu : cutO (c.O k)
      case true =>
        have HCU : Hid (cutO (c.O k) = true) := hcu
        rw [hcu] at h78
        clear hcu kb
        have SN : Hid (c.bS (k + 1) = ⟨m, f, l⟩) := by show _ = _; rw [c.bS_cut HCU.out]; exact HS.out
        go_wp2_with (go_at_call 78; refine (h78 _).mono ?_; rintro e w1 ⟨rfl, hw⟩; subst w1)
        go_roundw
        case rel => exact ⟨k + 1, m, f, l, p, _, by omega, by go_num, rfl, SN, HM2, HB2, HK2⟩
        case measure => simp [intOf]; omega
      case false =>
        have HCU : Hid (cutO (c.O k) = false) := hcu
        rw [hcu] at h78
        clear hcu
        have HBK : Hid (∀ b, c.bg k = b → c.bg k = b) := fun _ h => h
        have bgk : c.bg k = true ∨ c.bg k = false := by cases c.bg k <;> simp
        cases m with
        | zero =>
          obtain rfl := HM2.out.z rfl
          have SN : Hid (c.bS (k + 1) = ⟨0 + 1, upN f (0) k, upN l (0) k⟩) := c.bS_new0 HCU.out HS.out
          go_wp2_with (first | (go_at_call 78; refine (h78 _).mono ?_; rintro e w1 ⟨rfl, hw⟩; subst w1) | (at_builtin; refine wpList_append_lies _ rfl _ _ 38 rfl B0 45 i6 (.slice none 0 0) 1 24 Tryd.underlying38 hi6 hz60 hz61 hz62 rfl (by decide) _ _ _ rfl (own_2 HM2.out.own _ _) ⟨_, 0, none⟩ 1 1 [.slice (some ⟨wr.heap.size + 1, 0, none⟩) 2 2] rfl rfl ?_ ?_ (by decide) ?_ ?_ ?_ _ rfl ?_))
          · intro j u hj
            match j, hj with
            | 0, hj => simp at hj; subst hj; first | (simp [Addr.add]; done) | exact cell_two _ _ _ _ _ (by simp) 0 _ rfl
          · exact sl_one _
          · first | omega | (unfold maxLen; omega)
          · exact base_2 HM2.out.hs _ _
          intro g3 cp3 w3 hown hgrow hat hlt
          have MN : Hid (Bm B0 w3 (.slice (some ⟨g3, 0, none⟩) (0 + 1) cp3) ⟨0 + 1, upN f (0) k, upN l (0) k⟩ (upN p (0) (wr.heap.size + 1))) := by
            have z : (wr.alloc (.cells #[.int .i64 (c.O k), .int .i64 (c.D k), .int .i64 (c.A k), .int .i64 (c.B k), .int .i64 (c.C k), .int .u32 (c.X k)] 35)).heap.size = wr.heap.size + 1 := by simp
            have := HM2.out.push k (w3 := w3) (g3 := g3) (cp3 := cp3) (by rw [z]; exact hown) (by rw [z]; exact hgrow) (by rw [z]; simpa using hat)
            rw [z] at this
            exact this
          have BN : Hid (Below w.heap.size w w3) := ((HB2.out.alloc HB2.out.size _).alloc (by have := HB2.out.size; simp at *; omega) _).grown hgrow (by have := HB2.out.size; simp at *; omega) (fun g hg => by have := (HM2.out.own.lt g hg).1; have := HB0.out; omega)
          have KN : Hid (Own w3 q (n + 1) (fun i => .bool (bgF c.O c.A c.B c.C n i))) := own_gr ((HK2.out.next alloc_b).next alloc_b) hgrow (fun e => by have := (HM2.out.own.lt q e.symm).1; have := HB1.out; omega)
          clear hown hgrow hat HM2 HB2 HK2
          go_wp2
          go_roundw
          case rel => exact ⟨k + 1, 0 + 1, _, _, _, _, by omega, by go_num, rfl, SN, MN, BN, KN⟩
          case measure => simp [intOf]; omega
        | succ m1 =>
          obtain ⟨g, cp, rfl, gB, gs, ca, cf⟩ := HM2.out.at
          have cm := ca m1 (by omega)
          have r0 : (wr.alloc (.cells #[.int .i64 (c.O k), .int .i64 (c.D k), .int .i64 (c.A k), .int .i64 (c.B k), .int .i64 (c.C k), .int .u32 (c.X k)] 35)).cell? ⟨p m1, 0, none⟩ = some (.int .i64 (f m1 : Int)) := (HM2.out.row m1 (Nat.lt_succ_self m1)).cell 0 (by omega)
          have r1 : (wr.alloc (.cells #[.int .i64 (c.O k), .int .i64 (c.D k), .int .i64 (c.A k), .int .i64 (c.B k), .int .i64 (c.C k), .int .u32 (c.X k)] 35)).cell? ⟨p m1, 1, none⟩ = some (.int .i64 (l m1 : Int)) := (HM2.out.row m1 (Nat.lt_succ_self m1)).cell 1 (by omega)
          have bl : f m1 ≤ l m1 ∧ l m1 < k ∧ l m1 - f m1 ≤ 63 := by have := (c.bi k).la (by rw [HS.out]; exact Nat.succ_pos m1); rw [HS.out] at this; exact this
          have m0 : (0 : Int) ≤ (m1 : Int) := by omega
          clear gB gs ca cf
          have HF : Hid (f m1 ≤ k) := by show _ ≤ _; omega
          by_cases q1 : l m1 + 1 = k
          case neg =>
            have x1 : ((l m1 : Int) == (k : Int) - 1) = false := by simp; omega
            generalize f m1 = fm at r0 bl HF
            generalize hlm : l m1 = lm at r1 bl x1
            have HLM : Hid (l m1 = lm) := hlm
            have Q1 : Hid (¬ l m1 + 1 = k) := q1
            clear hlm q1 bgk HBK
            generalize c.bg k = bk at kb
            have SN : Hid (c.bS (k + 1) = ⟨(m1 + 1) + 1, upN f ((m1 + 1)) k, upN l ((m1 + 1)) k⟩) := c.bS_new HCU.out HS.out (fun q => Q1.out q.1)
            go_wp2_with (first | (go_at_call 78; refine (h78 _).mono ?_; rintro e w1 ⟨rfl, hw⟩; subst w1) | (at_builtin; refine wpList_append_lies _ rfl _ _ 38 rfl B0 45 i6 (.slice none 0 0) 1 24 Tryd.underlying38 hi6 hz60 hz61 hz62 rfl (by decide) _ _ _ rfl (own_2 HM2.out.own _ _) ⟨_, 0, none⟩ 1 1 [.slice (some ⟨wr.heap.size + 1, 0, none⟩) 2 2] rfl rfl ?_ ?_ (by decide) ?_ ?_ ?_ _ rfl ?_))
            · intro j u hj
              match j, hj with
              | 0, hj => simp at hj; subst hj; first | (simp [Addr.add]; done) | exact cell_two _ _ _ _ _ (by simp) 0 _ rfl
            · exact sl_one _
            · unfold maxLen; omega
            · omega
            · exact base_2 HM2.out.hs _ _
            intro g3 cp3 w3 hown hgrow hat hlt
            have MN : Hid (Bm B0 w3 (.slice (some ⟨g3, 0, none⟩) ((m1 + 1) + 1) cp3) ⟨(m1 + 1) + 1, upN f ((m1 + 1)) k, upN l ((m1 + 1)) k⟩ (upN p ((m1 + 1)) (wr.heap.size + 1))) := by
              have z : (wr.alloc (.cells #[.int .i64 (c.O k), .int .i64 (c.D k), .int .i64 (c.A k), .int .i64 (c.B k), .int .i64 (c.C k), .int .u32 (c.X k)] 35)).heap.size = wr.heap.size + 1 := by simp
              have := HM2.out.push k (w3 := w3) (g3 := g3) (cp3 := cp3) (by rw [z]; exact hown) (by rw [z]; exact hgrow) (by rw [z]; simpa using hat)
              rw [z] at this
              exact this
            have BN : Hid (Below w.heap.size w w3) := ((HB2.out.alloc HB2.out.size _).alloc (by have := HB2.out.size; simp at *; omega) _).grown hgrow (by have := HB2.out.size; simp at *; omega) (fun g hg => by have := (HM2.out.own.lt g hg).1; have := HB0.out; omega)
            have KN : Hid (Own w3 q (n + 1) (fun i => .bool (bgF c.O c.A c.B c.C n i))) := own_gr ((HK2.out.next alloc_b).next alloc_b) hgrow (fun e => by have := (HM2.out.own.lt q e.symm).1; have := HB1.out; omega)
            clear hown hgrow hat HM2 HB2 HK2
            go_wp2
            go_roundw
            case rel => exact ⟨k + 1, (m1 + 1) + 1, _, _, _, _, by omega, by go_num, rfl, SN, MN, BN, KN⟩
            case measure => simp [intOf]; omega
          have x1 : ((l m1 : Int) == (k : Int) - 1) = true := by simp; omega
          have HL1 : Hid (l m1 + 1 = k) := q1
          rcases bgk with hb | hb
          · have Q2 : Hid (c.bg k = true) := hb
            rw [hb] at kb
            clear hb HBK q1
            have SN : Hid (c.bS (k + 1) = ⟨(m1 + 1) + 1, upN f ((m1 + 1)) k, upN l ((m1 + 1)) k⟩) := c.bS_new HCU.out HS.out (fun q => by have := q.2.1; rw [Q2.out] at this; exact absurd this (by decide))
            go_wp2_with (first | (go_at_call 78; refine (h78 _).mono ?_; rintro e w1 ⟨rfl, hw⟩; subst w1) | (at_builtin; refine wpList_append_lies _ rfl _ _ 38 rfl B0 45 i6 (.slice none 0 0) 1 24 Tryd.underlying38 hi6 hz60 hz61 hz62 rfl (by decide) _ _ _ rfl (own_2 HM2.out.own _ _) ⟨_, 0, none⟩ 1 1 [.slice (some ⟨wr.heap.size + 1, 0, none⟩) 2 2] rfl rfl ?_ ?_ (by decide) ?_ ?_ ?_ _ rfl ?_))
            · intro j u hj
              match j, hj with
              | 0, hj => simp at hj; subst hj; first | (simp [Addr.add]; done) | exact cell_two _ _ _ _ _ (by simp) 0 _ rfl
            · exact sl_one _
            · unfold maxLen; omega
            · omega
            · exact base_2 HM2.out.hs _ _
            intro g3 cp3 w3 hown hgrow hat hlt
            have MN : Hid (Bm B0 w3 (.slice (some ⟨g3, 0, none⟩) ((m1 + 1) + 1) cp3) ⟨(m1 + 1) + 1, upN f ((m1 + 1)) k, upN l ((m1 + 1)) k⟩ (upN p ((m1 + 1)) (wr.heap.size + 1))) := by
              have z : (wr.alloc (.cells #[.int .i64 (c.O k), .int .i64 (c.D k), .int .i64 (c.A k), .int .i64 (c.B k), .int .i64 (c.C k), .int .u32 (c.X k)] 35)).heap.size = wr.heap.size + 1 := by simp
              have := HM2.out.push k (w3 := w3) (g3 := g3) (cp3 := cp3) (by rw [z]; exact hown) (by rw [z]; exact hgrow) (by rw [z]; simpa using hat)
              rw [z] at this
              exact this
            have BN : Hid (Below w.heap.size w w3) := ((HB2.out.alloc HB2.out.size _).alloc (by have := HB2.out.size; simp at *; omega) _).grown hgrow (by have := HB2.out.size; simp at *; omega) (fun g hg => by have := (HM2.out.own.lt g hg).1; have := HB0.out; omega)
            have KN : Hid (Own w3 q (n + 1) (fun i => .bool (bgF c.O c.A c.B c.C n i))) := own_gr ((HK2.out.next alloc_b).next alloc_b) hgrow (fun e => by have := (HM2.out.own.lt q e.symm).1; have := HB1.out; omega)
            clear hown hgrow hat HM2 HB2 HK2
            go_wp2
            go_roundw
            case rel => exact ⟨k + 1, (m1 + 1) + 1, _, _, _, _, by omega, by go_num, rfl, SN, MN, BN, KN⟩
            case measure => simp [intOf]; omega
          have HBG : Hid (c.bg k = false) := hb
          rw [hb] at kb
          clear hb HBK q1
          by_cases q3 : k - f m1 < 64
          case neg =>
            have x3 : ¬ (k : Int) - (f m1 : Int) < 64 := by omega
            have x4 : wrap64 ((k : Int) - (f m1 : Int)) = (k : Int) - (f m1 : Int) := by unfold wrap64; omega
            have Q3 : Hid (¬ k - f m1 < 64) := q3
            clear q3
            have SN : Hid (c.bS (k + 1) = ⟨(m1 + 1) + 1, upN f ((m1 + 1)) k, upN l ((m1 + 1)) k⟩) := c.bS_new HCU.out HS.out (fun q => Q3.out q.2.2)
            go_wp2_with (first | (go_at_call 78; refine (h78 _).mono ?_; rintro e w1 ⟨rfl, hw⟩; subst w1) | (at_builtin; refine wpList_append_lies _ rfl _ _ 38 rfl B0 45 i6 (.slice none 0 0) 1 24 Tryd.underlying38 hi6 hz60 hz61 hz62 rfl (by decide) _ _ _ rfl (own_2 HM2.out.own _ _) ⟨_, 0, none⟩ 1 1 [.slice (some ⟨wr.heap.size + 1, 0, none⟩) 2 2] rfl rfl ?_ ?_ (by decide) ?_ ?_ ?_ _ rfl ?_))
            · intro j u hj
              match j, hj with
              | 0, hj => simp at hj; subst hj; first | (simp [Addr.add]; done) | exact cell_two _ _ _ _ _ (by simp) 0 _ rfl
            · exact sl_one _
            · unfold maxLen; omega
            · omega
            · exact base_2 HM2.out.hs _ _
            intro g3 cp3 w3 hown hgrow hat hlt
            have MN : Hid (Bm B0 w3 (.slice (some ⟨g3, 0, none⟩) ((m1 + 1) + 1) cp3) ⟨(m1 + 1) + 1, upN f ((m1 + 1)) k, upN l ((m1 + 1)) k⟩ (upN p ((m1 + 1)) (wr.heap.size + 1))) := by
              have z : (wr.alloc (.cells #[.int .i64 (c.O k), .int .i64 (c.D k), .int .i64 (c.A k), .int .i64 (c.B k), .int .i64 (c.C k), .int .u32 (c.X k)] 35)).heap.size = wr.heap.size + 1 := by simp
              have := HM2.out.push k (w3 := w3) (g3 := g3) (cp3 := cp3) (by rw [z]; exact hown) (by rw [z]; exact hgrow) (by rw [z]; simpa using hat)
              rw [z] at this
              exact this
            have BN : Hid (Below w.heap.size w w3) := ((HB2.out.alloc HB2.out.size _).alloc (by have := HB2.out.size; simp at *; omega) _).grown hgrow (by have := HB2.out.size; simp at *; omega) (fun g hg => by have := (HM2.out.own.lt g hg).1; have := HB0.out; omega)
            have KN : Hid (Own w3 q (n + 1) (fun i => .bool (bgF c.O c.A c.B c.C n i))) := own_gr ((HK2.out.next alloc_b).next alloc_b) hgrow (fun e => by have := (HM2.out.own.lt q e.symm).1; have := HB1.out; omega)
            clear hown hgrow hat HM2 HB2 HK2
            go_wp2
            go_roundw
            case rel => exact ⟨k + 1, (m1 + 1) + 1, _, _, _, _, by omega, by go_num, rfl, SN, MN, BN, KN⟩
            case measure => simp [intOf]; omega
          have x3 : (k : Int) - (f m1 : Int) < 64 := by omega
          have x4 : wrap64 ((k : Int) - (f m1 : Int)) = (k : Int) - (f m1 : Int) := by unfold wrap64; omega
          have HLT : Hid (k - f m1 < 64) := q3
          clear q3
          have f1 := (HM2.out.row m1 (Nat.lt_succ_self m1)).free 1
          have SN : Hid (c.bS (k + 1) = ⟨m1 + 1, f, upN l m1 k⟩) := c.bS_ext HCU.out HS.out HL1.out HBG.out HLT.out
          have MN : Hid (Bm B0 ((wr.alloc (.cells #[.int .i64 (c.O k), .int .i64 (c.D k), .int .i64 (c.A k), .int .i64 (c.B k), .int .i64 (c.C k), .int .u32 (c.X k)] 35)).setCell ⟨p m1, 1, none⟩ (.int .i64 (k : Int))) (.slice (some ⟨g, 0, none⟩) (m1 + 1) cp) ⟨m1 + 1, f, upN l m1 k⟩ p) := HM2.out.set k
          have BN : Hid (Below w.heap.size w ((wr.alloc (.cells #[.int .i64 (c.O k), .int .i64 (c.D k), .int .i64 (c.A k), .int .i64 (c.B k), .int .i64 (c.C k), .int .u32 (c.X k)] 35)).setCell ⟨p m1, 1, none⟩ (.int .i64 (k : Int)))) := HB2.out.setCell (p := ⟨p m1, 1, none⟩) (by have := HM2.out.lo m1 (Nat.lt_succ_self m1); have := HB0.out; show _ ≤ p m1; omega) _
          have KN : Hid (Own ((wr.alloc (.cells #[.int .i64 (c.O k), .int .i64 (c.D k), .int .i64 (c.A k), .int .i64 (c.B k), .int .i64 (c.C k), .int .u32 (c.X k)] 35)).setCell ⟨p m1, 1, none⟩ (.int .i64 (k : Int))) q (n + 1) (fun i => .bool (bgF c.O c.A c.B c.C n i))) := HK2.out.but ((Only.refl _ _).setCell _ _) (by have := HM2.out.lo m1 (Nat.lt_succ_self m1); have := HB1.out; omega)
          clear HM2 HB2 HK2
          go_wp2_with (go_at_call 78; refine (h78 _).mono ?_; rintro e w1 ⟨rfl, hw⟩; subst w1)
          go_roundw
          case rel => exact ⟨k + 1, m1 + 1, f, _, p, _, by omega, by go_num, rfl, SN, MN, BN, KN⟩
          case measure => simp [intOf]; omega
    · obtain rfl : n = k := by omega
      have j1 : ¬ (n : Int) < (n : Int) := by omega
      have ME : Hid (Bm w.heap.size wr u (c.bS n) p) := by show Bm _ _ _ _ _; rw [HS.out]; exact HM.out.lower HB0.out
      clear HM
      go_wp2
      go_ret
      first
      | exact ⟨_, p, rfl, ME.out, HB.out⟩
      | exact ⟨_, rfl, p, ME.out, HB.out⟩
      | exact ⟨_, rfl, ⟨p, ME.out⟩, HB.out⟩
set_option maxRecDepth 100000 in
set_option maxHeartbeats 8000000 in
theorem pblocks (a cap : Nat) (c : Cd) (K : Ok c) (w : World) (R : RowI w a c.n c.O c.D c.A c.B c.C c.X) (hc : c.n ≤ cap) : Calls Tryd.prog 57 #[.slice (some ⟨a, 0, none⟩) c.n cap] w fun e w' => ∃ u p, e = .returned u ∧ Bm w.heap.size w' u (c.bS c.n) p ∧ Below w.heap.size w w' := by
  obtain ⟨i6, hi6, hz60, hz61, hz62⟩ := info_parts info45
  have h63 := begins60 a cap c K w R hc
  have HR := Hid.mk R
  have hn6 := K.n1
  obtain ⟨n, hn2⟩ : ∃ n, c.n = n := ⟨_, rfl⟩
  have HN : Hid (c.n = n) := hn2
  rw [hn2] at hn6 h63 HR ⊢
  clear hn2 R K hc
  go_enter Tryd.func57, Tryd.ntmps57
  go_wp2_with (first | (go_at_call 63; refine h63.mono ?_; rintro e w1 ⟨⟨S, rfl, hS⟩, b1⟩) | (refine wpList_store_own rfl 84 _ _ rfl w1.heap.size rfl 600 _ _ rfl (own_vals w1 (fun _ => .bool false) 600 84) (fun _ => rfl) size44 ?_; intro w2 O2 K2))
  have B12 : Below w1.heap.size w1 w2 := ((Below.refl _ _).alloc (Nat.le_refl _) _).trans (K2.below (Nat.le_refl _) (by simp))
  obtain ⟨q, hq⟩ : ∃ q, w1.heap.size = q := ⟨_, rfl⟩
  have B2 : Hid (Below w.heap.size w w2) := b1.trans (B12.mono b1.size)
  have HB0 : Hid (w.heap.size ≤ w2.heap.size) := B2.out.size
  have HB1 : Hid (q < w2.heap.size) := by have := O2.hi; show _ < _; omega
  have K3 : Hid (Own w2 q 600 (fun i => .bool (S i))) := by show Own _ _ _ _; rw [← hq]; exact O2
  rw [hq]
  clear hq O2 b1 K2 B12 h63
  have K2 := K3
  clear K3
  have S2 : Hid (c.bS 0 = ⟨0, fun _ => 0, fun _ => 0⟩) := rfl
  have M2 : Hid (Bm w2.heap.size w2 (.slice none 0 0) ⟨0, fun _ => 0, fun _ => 0⟩ (fun _ => 0)) := bm_nil w2
  obtain ⟨B0, hB0⟩ : ∃ B0, w2.heap.size = B0 := ⟨_, rfl⟩
  rw [hB0] at M2 HB0 HB1
  clear hB0
  go_wp2
  go_loopw [4, 12] (fun vv i wr => ∃ (k m : Nat) (f l p : Nat → Nat) (u : Value), k ≤ n ∧ i = .int .i64 k ∧ u = vv ∧ Hid (c.bS k = ⟨m, f, l⟩) ∧ Hid (Bm B0 wr u ⟨m, f, l⟩ p) ∧ Hid (Below w.heap.size w wr) ∧ Hid (Own wr q 600 (fun i => .bool (S i)))) (fun _ i _ => n - (intOf i).toNat)
  case atStart => exact ⟨0, 0, _, _, _, _, Nat.zero_le _, rfl, rfl, S2, M2, B2, K2⟩
  case round =>
    obtain ⟨k, m, f, l, p, u, hk, rfl, rfl, HS, HM, HB, HK⟩ := hrel
    clear S2 M2 B2 K2
    by_cases hkn : k < n
    · have j1 : (k : Int) < (n : Int) := by omega
      have j0 : (0 : Int) ≤ (k : Int) := by omega
      have j2 : (k : Int) < (n : Int) + 1 := by omega
      have j3 : (k : Int) < 600 := by omega
      have hkc : k < c.n := by rw [HN.out]; exact hkn
      have RW := HR.out.next HB.out
      have e0 := RW.c0 k hkn
      have e1 := RW.c1 k hkn
      have e2 := RW.c2 k hkn
      have e3 := RW.c3 k hkn
      have e4 := RW.c4 k hkn
      have e5 := RW.c5 k hkn
      have h78 := fun v => ends90 (c.O k) v
      have BAl : Below wr.heap.size wr (wr.alloc (.cells #[.int .i64 (c.O k), .int .i64 (c.D k), .int .i64 (c.A k), .int .i64 (c.B k), .int .i64 (c.C k), .int .u32 (c.X k)] 35)) := alloc_b
      have HM2 : Hid (Bm B0 (wr.alloc (.cells #[.int .i64 (c.O k), .int .i64 (c.D k), .int .i64 (c.A k), .int .i64 (c.B k), .int .i64 (c.C k), .int .u32 (c.X k)] 35)) u ⟨m, f, l⟩ p) := HM.out.next BAl
      have HB2 : Hid (Below w.heap.size w (wr.alloc (.cells #[.int .i64 (c.O k), .int .i64 (c.D k), .int .i64 (c.A k), .int .i64 (c.B k), .int .i64 (c.C k), .int .u32 (c.X k)] 35))) := HB.out.trans (BAl.mono HB.out.size)
      have HK2 : Hid (Own (wr.alloc (.cells #[.int .i64 (c.O k), .int .i64 (c.D k), .int .i64 (c.A k), .int .i64 (c.B k), .int .i64 (c.C k), .int .u32 (c.X k)] 35)) q 600 (fun i => .bool (S i))) := HK.out.next BAl
      have bm : m ≤ k := by have := (c.bi k).m; rw [HS.out] at this; exact this
      clear RW BAl HM HB HK
      have kb0 := HK2.out.cell k (by omega)
      have kb : (wr.alloc (.cells #[.int .i64 (c.O k), .int .i64 (c.D k), .int .i64 (c.A k), .int .i64 (c.B k), .int .i64 (c.C k), .int .u32 (c.X k)] 35)).cell? ⟨q, k, none⟩ = some (.bool (c.bg k)) := by rw [kb0]; show some (Value.bool _) = _; rw [hS.out k (by omega)]
      clear kb0
      cases hcu : cutO (c.O k)
      case true =>
        have HCU : Hid (cutO (c.O k) = true) := hcu
        rw [hcu] at h78
        clear hcu kb
        have SN : Hid (c.bS (k + 1) = ⟨m, f, l⟩) := by show _ = _; rw [c.bS_cut HCU.out]; exact HS.out
        (obtain ⟨su, sn, sc, rfl⟩ := bm_slice HM2.out)
        go_wp2_with (go_at_call 90; refine (h78 _).mono ?_; rintro e w1 ⟨rfl, hw⟩; subst w1)
        go_roundw
        case rel => exact ⟨k + 1, m, f, l, p, _, by omega, by go_num, rfl, SN, HM2, HB2, HK2⟩
        case measure => simp [intOf]; omega
      case false =>
        have HCU : Hid (cutO (c.O k) = false) := hcu
        rw [hcu] at h78
        clear hcu
        have HBK : Hid (∀ b, c.bg k = b → c.bg k = b) := fun _ h => h
        have bgk : c.bg k = true ∨ c.bg k = false := by cases c.bg k <;> simp
        cases m with
        | zero =>
          obtain rfl := HM2.out.z rfl
          have hb : c.bg k = true := by
            rcases bgk with hb | hb
            · exact hb
            · exfalso
              have k0 : 0 < k := Nat.pos_of_ne_zero (fun e => by subst e; rw [bg_zero] at hb; exact absurd hb (by decide))
              have hp := (c.bi k).pr k0 (by
                cases hx : cutO (c.O (k - 1))
                · rfl
                · have := bg_cut c (k - 1) (by omega) hx
                  rw [show k - 1 + 1 = k by omega, hb] at this
                  exact absurd this (by decide))
              rw [HS.out] at hp
              exact absurd hp.1 (Nat.lt_irrefl 0)
          rw [hb] at kb
          clear hb bgk HBK
          have SN : Hid (c.bS (k + 1) = ⟨0 + 1, upN f (0) k, upN l (0) k⟩) := c.bS_new0 HCU.out HS.out
          go_wp2_with (first | (go_at_call 90; refine (h78 _).mono ?_; rintro e w1 ⟨rfl, hw⟩; subst w1) | (at_builtin; refine wpList_append_lies _ rfl _ _ 38 rfl B0 45 i6 (.slice none 0 0) 1 24 Tryd.underlying38 hi6 hz60 hz61 hz62 rfl (by decide) _ _ _ rfl (own_2 HM2.out.own _ _) ⟨_, 0, none⟩ 1 1 [.slice (some ⟨wr.heap.size + 1, 0, none⟩) 2 2] rfl rfl ?_ ?_ (by decide) ?_ ?_ ?_ _ rfl ?_))
          · intro j u hj
            match j, hj with
            | 0, hj => simp at hj; subst hj; first | (simp [Addr.add]; done) | exact cell_two _ _ _ _ _ (by simp) 0 _ rfl
          · exact sl_one _
          · first | omega | (unfold maxLen; omega)
          · exact base_2 HM2.out.hs _ _
          intro g3 cp3 w3 hown hgrow hat hlt
          have MN : Hid (Bm B0 w3 (.slice (some ⟨g3, 0, none⟩) (0 + 1) cp3) ⟨0 + 1, upN f (0) k, upN l (0) k⟩ (upN p (0) (wr.heap.size + 1))) := by
            have z : (wr.alloc (.cells #[.int .i64 (c.O k), .int .i64 (c.D k), .int .i64 (c.A k), .int .i64 (c.B k), .int .i64 (c.C k), .int .u32 (c.X k)] 35)).heap.size = wr.heap.size + 1 := by simp
            have := HM2.out.push k (w3 := w3) (g3 := g3) (cp3 := cp3) (by rw [z]; exact hown) (by rw [z]; exact hgrow) (by rw [z]; simpa using hat)
            rw [z] at this
            exact this
          have BN : Hid (Below w.heap.size w w3) := ((HB2.out.alloc HB2.out.size _).alloc (by have := HB2.out.size; simp at *; omega) _).grown hgrow (by have := HB2.out.size; simp at *; omega) (fun g hg => by have := (HM2.out.own.lt g hg).1; have := HB0.out; omega)
          have KN : Hid (Own w3 q 600 (fun i => .bool (S i))) := own_gr ((HK2.out.next alloc_b).next alloc_b) hgrow (fun e => by have := (HM2.out.own.lt q e.symm).1; have := HB1.out; omega)
          clear hown hgrow hat HM2 HB2 HK2
          go_wp2
          go_roundw
          case rel => exact ⟨k + 1, 0 + 1, _, _, _, _, by omega, by go_num, rfl, SN, MN, BN, KN⟩
          case measure => simp [intOf]; omega
        | succ m1 =>
          obtain ⟨g, cp, rfl, gB, gs, ca, cf⟩ := HM2.out.at
          have cm := ca m1 (by omega)
          have r0 : (wr.alloc (.cells #[.int .i64 (c.O k), .int .i64 (c.D k), .int .i64 (c.A k), .int .i64 (c.B k), .int .i64 (c.C k), .int .u32 (c.X k)] 35)).cell? ⟨p m1, 0, none⟩ = some (.int .i64 (f m1 : Int)) := (HM2.out.row m1 (Nat.lt_succ_self m1)).cell 0 (by omega)
          have r1 : (wr.alloc (.cells #[.int .i64 (c.O k), .int .i64 (c.D k), .int .i64 (c.A k), .int .i64 (c.B k), .int .i64 (c.C k), .int .u32 (c.X k)] 35)).cell? ⟨p m1, 1, none⟩ = some (.int .i64 (l m1 : Int)) := (HM2.out.row m1 (Nat.lt_succ_self m1)).cell 1 (by omega)
          have bl : f m1 ≤ l m1 ∧ l m1 < k ∧ l m1 - f m1 ≤ 63 := by have := (c.bi k).la (by rw [HS.out]; exact Nat.succ_pos m1); rw [HS.out] at this; exact this
          have m0 : (0 : Int) ≤ (m1 : Int) := by omega
          clear gB gs ca cf
          rcases bgk with hb | hb
          · have Q2 : Hid (c.bg k = true) := hb
            rw [hb] at kb
            clear hb HBK
            have SN : Hid (c.bS (k + 1) = ⟨(m1 + 1) + 1, upN f ((m1 + 1)) k, upN l ((m1 + 1)) k⟩) := c.bS_new HCU.out HS.out (fun q => by have := q.2.1; rw [Q2.out] at this; exact absurd this (by decide))
            go_wp2_with (first | (go_at_call 90; refine (h78 _).mono ?_; rintro e w1 ⟨rfl, hw⟩; subst w1) | (at_builtin; refine wpList_append_lies _ rfl _ _ 38 rfl B0 45 i6 (.slice none 0 0) 1 24 Tryd.underlying38 hi6 hz60 hz61 hz62 rfl (by decide) _ _ _ rfl (own_2 HM2.out.own _ _) ⟨_, 0, none⟩ 1 1 [.slice (some ⟨wr.heap.size + 1, 0, none⟩) 2 2] rfl rfl ?_ ?_ (by decide) ?_ ?_ ?_ _ rfl ?_))
            · intro j u hj
              match j, hj with
              | 0, hj => simp at hj; subst hj; first | (simp [Addr.add]; done) | exact cell_two _ _ _ _ _ (by simp) 0 _ rfl
            · exact sl_one _
            · unfold maxLen; omega
            · omega
            · exact base_2 HM2.out.hs _ _
            intro g3 cp3 w3 hown hgrow hat hlt
            have MN : Hid (Bm B0 w3 (.slice (some ⟨g3, 0, none⟩) ((m1 + 1) + 1) cp3) ⟨(m1 + 1) + 1, upN f ((m1 + 1)) k, upN l ((m1 + 1)) k⟩ (upN p ((m1 + 1)) (wr.heap.size + 1))) := by
              have z : (wr.alloc (.cells #[.int .i64 (c.O k), .int .i64 (c.D k), .int .i64 (c.A k), .int .i64 (c.B k), .int .i64 (c.C k), .int .u32 (c.X k)] 35)).heap.size = wr.heap.size + 1 := by simp
              have := HM2.out.push k (w3 := w3) (g3 := g3) (cp3 := cp3) (by rw [z]; exact hown) (by rw [z]; exact hgrow) (by rw [z]; simpa using hat)
              rw [z] at this
              exact this
            have BN : Hid (Below w.heap.size w w3) := ((HB2.out.alloc HB2.out.size _).alloc (by have := HB2.out.size; simp at *; omega) _).grown hgrow (by have := HB2.out.size; simp at *; omega) (fun g hg => by have := (HM2.out.own.lt g hg).1; have := HB0.out; omega)
            have KN : Hid (Own w3 q 600 (fun i => .bool (S i))) := own_gr ((HK2.out.next alloc_b).next alloc_b) hgrow (fun e => by have := (HM2.out.own.lt q e.symm).1; have := HB1.out; omega)
            clear hown hgrow hat HM2 HB2 HK2
            go_wp2
            go_roundw
            case rel => exact ⟨k + 1, (m1 + 1) + 1, _, _, _, _, by omega, by go_num, rfl, SN, MN, BN, KN⟩
            case measure => simp [intOf]; omega
          have HBG : Hid (c.bg k = false) := hb
          have HL1 : Hid (l m1 + 1 = k) := by
            have k0 : 0 < k := Nat.pos_of_ne_zero (fun e => by subst e; rw [bg_zero] at hb; exact absurd hb (by decide))
            have hp := (c.bi k).pr k0 (by
              cases hx : cutO (c.O (k - 1))
              · rfl
              · have := bg_cut c (k - 1) (by omega) hx
                rw [show k - 1 + 1 = k by omega, hb] at this
                exact absurd this (by decide))
            rw [HS.out] at hp
            exact hp.2
          rw [hb] at kb
          clear hb HBK
          have x4 : wrap64 ((k : Int) - (f m1 : Int)) = (k : Int) - (f m1 : Int) := by unfold wrap64; omega
          by_cases q3 : k - f m1 = 64
          case pos =>
            have x3 : ((k : Int) - (f m1 : Int) == 64) = true := by simp; omega
            have Q3 : Hid (¬ k - f m1 < 64) := by show ¬ _; omega
            clear q3
            have SN : Hid (c.bS (k + 1) = ⟨(m1 + 1) + 1, upN f ((m1 + 1)) k, upN l ((m1 + 1)) k⟩) := c.bS_new HCU.out HS.out (fun q => Q3.out q.2.2)
            go_wp2_with (first | (go_at_call 90; refine (h78 _).mono ?_; rintro e w1 ⟨rfl, hw⟩; subst w1) | (at_builtin; refine wpList_append_lies _ rfl _ _ 38 rfl B0 45 i6 (.slice none 0 0) 1 24 Tryd.underlying38 hi6 hz60 hz61 hz62 rfl (by decide) _ _ _ rfl (own_2 HM2.out.own _ _) ⟨_, 0, none⟩ 1 1 [.slice (some ⟨wr.heap.size + 1, 0, none⟩) 2 2] rfl rfl ?_ ?_ (by decide) ?_ ?_ ?_ _ rfl ?_))
            · intro j u hj
              match j, hj with
              | 0, hj => simp at hj; subst hj; first | (simp [Addr.add]; done) | exact cell_two _ _ _ _ _ (by simp) 0 _ rfl
            · exact sl_one _
            · unfold maxLen; omega
            · omega
            · exact base_2 HM2.out.hs _ _
            intro g3 cp3 w3 hown hgrow hat hlt
            have MN : Hid (Bm B0 w3 (.slice (some ⟨g3, 0, none⟩) ((m1 + 1) + 1) cp3) ⟨(m1 + 1) + 1, upN f ((m1 + 1)) k, upN l ((m1 + 1)) k⟩ (upN p ((m1 + 1)) (wr.heap.size + 1))) := by
              have z : (wr.alloc (.cells #[.int .i64 (c.O k), .int .i64 (c.D k), .int .i64 (c.A k), .int .i64 (c.B k), .int .i64 (c.C k), .int .u32 (c.X k)] 35)).heap.size = wr.heap.size + 1 := by simp
              have := HM2.out.push k (w3 := w3) (g3 := g3) (cp3 := cp3) (by rw [z]; exact hown) (by rw [z]; exact hgrow) (by rw [z]; simpa using hat)
              rw [z] at this
              exact this
            have BN : Hid (Below w.heap.size w w3) := ((HB2.out.alloc HB2.out.size _).alloc (by have := HB2.out.size; simp at *; omega) _).grown hgrow (by have := HB2.out.size; simp at *; omega) (fun g hg => by have := (HM2.out.own.lt g hg).1; have := HB0.out; omega)
            have KN : Hid (Own w3 q 600 (fun i => .bool (S i))) := own_gr ((HK2.out.next alloc_b).next alloc_b) hgrow (fun e => by have := (HM2.out.own.lt q e.symm).1; have := HB1.out; omega)
            clear hown hgrow hat HM2 HB2 HK2
            go_wp2
            go_roundw
            case rel => exact ⟨k + 1, (m1 + 1) + 1, _, _, _, _, by omega, by go_num, rfl, SN, MN, BN, KN⟩
            case measure => simp [intOf]; omega
          have x3 : ((k : Int) - (f m1 : Int) == 64) = false := by simp; omega
          have HLT : Hid (k - f m1 < 64) := by have := HL1.out; show _ < _; omega
          clear q3
          have f1 := (HM2.out.row m1 (Nat.lt_succ_self m1)).free 1
          have SN : Hid (c.bS (k + 1) = ⟨m1 + 1, f, upN l m1 k⟩) := c.bS_ext HCU.out HS.out HL1.out HBG.out HLT.out
          have MN : Hid (Bm B0 ((wr.alloc (.cells #[.int .i64 (c.O k), .int .i64 (c.D k), .int .i64 (c.A k), .int .i64 (c.B k), .int .i64 (c.C k), .int .u32 (c.X k)] 35)).setCell ⟨p m1, 1, none⟩ (.int .i64 (k : Int))) (.slice (some ⟨g, 0, none⟩) (m1 + 1) cp) ⟨m1 + 1, f, upN l m1 k⟩ p) := HM2.out.set k
          have BN : Hid (Below w.heap.size w ((wr.alloc (.cells #[.int .i64 (c.O k), .int .i64 (c.D k), .int .i64 (c.A k), .int .i64 (c.B k), .int .i64 (c.C k), .int .u32 (c.X k)] 35)).setCell ⟨p m1, 1, none⟩ (.int .i64 (k : Int)))) := HB2.out.setCell (p := ⟨p m1, 1, none⟩) (by have := HM2.out.lo m1 (Nat.lt_succ_self m1); have := HB0.out; show _ ≤ p m1; omega) _
          have KN : Hid (Own ((wr.alloc (.cells #[.int .i64 (c.O k), .int .i64 (c.D k), .int .i64 (c.A k), .int .i64 (c.B k), .int .i64 (c.C k), .int .u32 (c.X k)] 35)).setCell ⟨p m1, 1, none⟩ (.int .i64 (k : Int))) q 600 (fun i => .bool (S i))) := HK2.out.but ((Only.refl _ _).setCell _ _) (by have := HM2.out.lo m1 (Nat.lt_succ_self m1); have := HB1.out; omega)
          clear HM2 HB2 HK2
          go_wp2_with (go_at_call 90; refine (h78 _).mono ?_; rintro e w1 ⟨rfl, hw⟩; subst w1)
          go_roundw
          case rel => exact ⟨k + 1, m1 + 1, f, _, p, _, by omega, by go_num, rfl, SN, MN, BN, KN⟩
          case measure => simp [intOf]; omega
    · obtain rfl : n = k := by omega
      have j1 : ¬ (n : Int) < (n : Int) := by omega
      have ME : Hid (Bm w.heap.size wr u (c.bS n) p) := by show Bm _ _ _ _ _; rw [HS.out]; exact HM.out.lower HB0.out
      clear HM
      go_wp2
      go_ret
      first
      | exact ⟨_, p, rfl, ME.out, HB.out⟩
      | exact ⟨_, rfl, p, ME.out, HB.out⟩
      | exact ⟨_, rfl, ⟨p, ME.out⟩, HB.out⟩
end Go.Proofs.YtcgapochcahknaaDoor
