/- The model's CacheAll; both sides. -/
import Derived.Test.YtfhpjcojccfcoaaCb
namespace Go.Proofs.Ytfhpjcojccfcoaa
open Go.ChangeShapes Go.WideShapes Go.ChangeAt Go.RowKit
set_option linter.unusedVariables false
/-- One hit more, one miss more, one line more that went. -/
theorem Lw.c0 {B lb gm m hb : Nat} {w : World} {U : Nat → Value} {u : Value} {L : Nat → List Int} {M : List Int} {a b : Int} (h : Lw B lb gm m hb w U u L M a b) (x : Int) : Lw B lb gm m hb (w.setCell ⟨hb, 0, none⟩ (.int .i64 x)) U u L M x b ∧ (w.setCell ⟨hb, 0, none⟩ (.int .i64 x)).heap[lb]? = w.heap[lb]? ∧ Below B w (w.setCell ⟨hb, 0, none⟩ (.int .i64 x)) := by
  have O1 : Only hb w (w.setCell ⟨hb, 0, none⟩ (.int .i64 x)) := (Only.refl _ _).setCell _ _
  have hu : u.ownBlock ≠ some hb := fun e => (h.ou hb e).2.2.1 rfl
  have R1 := h.R.grown (r := some hb) ⟨O1.os, O1.tape, O1.output, O1.size, fun k hk hne => O1.block k hk (fun q => hne (by rw [q]))⟩ (Or.inr hu)
  exact h.fin ⟨O1.os, O1.tape, O1.output, O1.size, fun k hk h1 _ => O1.block k hk h1, fun q hq => Or.inl hq⟩ (h.C.s0 _) R1 hu
theorem Lw.c1 {B lb gm m hb : Nat} {w : World} {U : Nat → Value} {u : Value} {L : Nat → List Int} {M : List Int} {a b : Int} (h : Lw B lb gm m hb w U u L M a b) (x : Int) : Lw B lb gm m hb (w.setCell ⟨hb, 1, none⟩ (.int .i64 x)) U u L M a x ∧ (w.setCell ⟨hb, 1, none⟩ (.int .i64 x)).heap[lb]? = w.heap[lb]? ∧ Below B w (w.setCell ⟨hb, 1, none⟩ (.int .i64 x)) := by
  have O1 : Only hb w (w.setCell ⟨hb, 1, none⟩ (.int .i64 x)) := (Only.refl _ _).setCell _ _
  have hu : u.ownBlock ≠ some hb := fun e => (h.ou hb e).2.2.1 rfl
  have R1 := h.R.grown (r := some hb) ⟨O1.os, O1.tape, O1.output, O1.size, fun k hk hne => O1.block k hk (fun q => hne (by rw [q]))⟩ (Or.inr hu)
  exact h.fin ⟨O1.os, O1.tape, O1.output, O1.size, fun k hk h1 _ => O1.block k hk h1, fun q hq => Or.inl hq⟩ (h.C.s1 _) R1 hu
theorem Lw.app {B lb gm m hb : Nat} {w w4 : World} {U : Nat → Value} {u v4 : Value} {L : Nat → List Int} {M M' : List Int} {a b : Int} {o : Obj} (h : Lw B lb gm m hb w U u L M a b) (G : (w.alloc o).grownBy w4 u.ownBlock) (R4 : Ri B w4 v4 M') (A : v4.ownBlock = u.ownBlock ∨ v4.ownBlock = some (w.alloc o).heap.size) : C3 w4 hb (.int .i64 a) (.int .i64 b) u ∧ Lw B lb gm m hb (w4.setCell ⟨hb, 2, none⟩ v4) U v4 L M' a b ∧ (w4.setCell ⟨hb, 2, none⟩ v4).heap[lb]? = w.heap[lb]? ∧ Below B w (w4.setCell ⟨hb, 2, none⟩ v4) := by
  have hu : u.ownBlock ≠ some hb := fun e => (h.ou hb e).2.2.1 rfl
  have hsz : (w.alloc o).heap.size = w.heap.size + 1 := World.size_alloc _ _
  have hh := h.C.hi
  have C4 := (h.C.next (alloc_b (o := o))).block (G.block hb (by omega) (fun e => hu e.symm)) G.size
  have hv : v4.ownBlock ≠ some hb := fun e => by
    rcases A with e2 | e2
    · exact hu (by rw [← e2]; exact e)
    · rw [e2] at e; have := Option.some.inj e; omega
  have O1 : Only hb w4 (w4.setCell ⟨hb, 2, none⟩ v4) := (Only.refl _ _).setCell _ _
  have R1 := R4.grown (r := some hb) ⟨O1.os, O1.tape, O1.output, O1.size, fun k hk hne => O1.block k hk (fun q => hne (by rw [q]))⟩ (Or.inr hv)
  have hg := G.size
  refine ⟨C4, h.fin ⟨O1.os.trans G.os, O1.tape.trans G.tape, O1.output.trans G.output, by have := O1.size; omega, fun k hk h1 h2 => (O1.block k (by omega) h1).trans ((G.block k (by omega) h2).trans ((alloc_b (v := w) (o := o)).block k hk)), fun q hq => ?_⟩ (C4.s2 v4) R1 hv⟩
  rcases A with e | e
  · exact Or.inl (by rw [← e]; exact hq)
  · rw [e] at hq; have := Option.some.inj hq; exact Or.inr (by omega)
set_option maxRecDepth 100000 in
set_option maxHeartbeats 2000000 in
theorem mca_ok (m y l p : Nat) (c : Int) (v pv : Value) (f : Nat → List Int) (ls : List Int) (w : World) (R : ARowsC w v m f) (Q : ARow w pv ls) (g : goodB (m : Int) (y : Int) (l : Int) (p : Int) m f c = true) (a : accB ls = true) : Calls Try.prog 34 #[.agg #[.int .i64 (m : Int), .int .i64 (y : Int), .int .i64 (l : Int), .int .i64 (p : Int), v, .int .i64 c], pv] w fun e w' => ∃ a k u R, e = .returned (.tuple #[.agg #[.int .i64 (m : Int), .int .i64 (y : Int), .int .i64 (l : Int), .int .i64 (p : Int), .slice a m k, .int .i64 (ca m y l p ⟨f, c⟩ ls ls.length).s.coin], .agg #[.int .i64 (ca m y l p ⟨f, c⟩ ls ls.length).h, .int .i64 (ca m y l p ⟨f, c⟩ ls ls.length).x, u], .bool true]) ∧ Ay (Rg w.heap.size w'.heap.size R) w' (.slice a m k) m (ca m y l p ⟨f, c⟩ ls ls.length).s.L ∧ Ny (Rg w.heap.size w'.heap.size (fun k => ¬ R k)) w' u (fun i => (ca m y l p ⟨f, c⟩ ls ls.length).o.getD i 0) (ca m y l p ⟨f, c⟩ ls ls.length).o.length ∧ Below w.heap.size w w' := by
  obtain ⟨hnew, _, hc, hsets⟩ := goodB_iff g
  obtain ⟨hm, hy, hl, hp⟩ := newB_iff hnew
  have m1 : 1 ≤ m := by have := (pwB_iff hm).1; omega
  have m2 : m ≤ 64 := by have := (pwB_iff hm).2; omega
  have l1 : 16 ≤ l := by have := (pwB_iff hl).1; omega
  have l2 : l ≤ 256 := by have := (pwB_iff hl).2; omega
  have ok : Cs.ok ⟨f, c⟩ m y := ⟨fun x hx => setB_P (hsets x hx), hc.1, by show c < 65536; omega⟩
  have hf8 : ∀ x, x < m → (f x).length ≤ 8 := fun x hx => by have h : (f x).length ≤ y := (ok.1 x hx).1; omega
  obtain ⟨l200, hpl⟩ := accB_at a
  have HPL := Hid.mk hpl
  have HOK : Hid (∀ k, k ≤ ls.length → (ca m y l p ⟨f, c⟩ ls k).s.ok m y ∧ 0 ≤ (ca m y l p ⟨f, c⟩ ls k).h ∧ (ca m y l p ⟨f, c⟩ ls k).h ≤ k ∧ 0 ≤ (ca m y l p ⟨f, c⟩ ls k).x ∧ (ca m y l p ⟨f, c⟩ ls k).x ≤ k ∧ (ca m y l p ⟨f, c⟩ ls k).o.length ≤ k) := ca_ok m y l p ⟨f, c⟩ ls ok (by omega) (by omega) (by omega) hpl
  have HC0 : Hid (ca m y l p ⟨f, c⟩ ls 0 = ⟨⟨f, c⟩, 0, 0, []⟩) := rfl
  have HST : Hid (∀ k, ca m y l p ⟨f, c⟩ ls (k + 1) = (ca m y l p ⟨f, c⟩ ls k).step m y l p (ls.getD k 0)) := fun _ => rfl
  obtain ⟨ad, cap, hv, hR0⟩ := id R
  subst hv
  obtain ⟨pa, pc, hv, _⟩ := id Q
  subst hv
  have hR := R
  clear R hR0
  obtain ⟨W, hW⟩ : ∃ W, W = ((w.alloc (.cells #[.int .i64 (m : Int), .int .i64 (y : Int), .int .i64 (l : Int), .int .i64 (p : Int), .slice ad m cap, .int .i64 c] 42)).alloc (.cells #[.int .i64 0, .int .i64 0, .int .i64 0, .int .i64 0, .slice none 0 0, .int .i64 0] 42)).alloc (.cells #[.int .i64 0, .int .i64 0, .slice none 0 0] 57) := ⟨_, rfl⟩
  have BW : Below w.heap.size w W := by rw [hW]; exact (((Below.refl _ _).alloc (Nat.le_refl _) _).alloc (by rw [World.size_alloc]; omega) _).alloc (by rw [World.size_alloc, World.size_alloc]; omega) _
  have D0 : C6 W w.heap.size (.int .i64 (m : Int)) (.int .i64 (y : Int)) (.int .i64 (l : Int)) (.int .i64 (p : Int)) (.slice ad m cap) (.int .i64 c) := by rw [hW]; exact ((C6.new _ _ _ _ _ _ _ _).next alloc_b).next alloc_b
  have D1 : C6 W (w.heap.size + 1) (.int .i64 0) (.int .i64 0) (.int .i64 0) (.int .i64 0) (.slice none 0 0) (.int .i64 0) := by
    rw [hW]
    have h := (C6.new (w.alloc (.cells #[.int .i64 (m : Int), .int .i64 (y : Int), .int .i64 (l : Int), .int .i64 (p : Int), .slice ad m cap, .int .i64 c] 42)) 42 (.int .i64 0) (.int .i64 0) (.int .i64 0) (.int .i64 0) (.slice none 0 0) (.int .i64 0)).next (alloc_b (o := .cells #[.int .i64 0, .int .i64 0, .slice none 0 0] 57))
    rwa [World.size_alloc] at h
  have D2 : C3 W (w.heap.size + 1 + 1) (.int .i64 0) (.int .i64 0) (.slice none 0 0) := by
    rw [hW]
    have h := C3.new ((w.alloc (.cells #[.int .i64 (m : Int), .int .i64 (y : Int), .int .i64 (l : Int), .int .i64 (p : Int), .slice ad m cap, .int .i64 c] 42)).alloc (.cells #[.int .i64 0, .int .i64 0, .int .i64 0, .int .i64 0, .slice none 0 0, .int .i64 0] 42)) 57 (.int .i64 0) (.int .i64 0) (.slice none 0 0)
    rwa [World.size_alloc, World.size_alloc] at h
  have HD : Hid (∀ w', Below W.heap.size W w' → C6 w' w.heap.size (.int .i64 (m : Int)) (.int .i64 (y : Int)) (.int .i64 (l : Int)) (.int .i64 (p : Int)) (.slice ad m cap) (.int .i64 c) ∧ C6 w' (w.heap.size + 1) (.int .i64 0) (.int .i64 0) (.int .i64 0) (.int .i64 0) (.slice none 0 0) (.int .i64 0) ∧ C3 w' (w.heap.size + 1 + 1) (.int .i64 0) (.int .i64 0) (.slice none 0 0)) := fun w' b => ⟨D0.next b, D1.next b, D2.next b⟩
  have HBW := Hid.mk BW
  have HRW : Hid (∀ w', Below w.heap.size w w' → ARowsC w' (.slice ad m cap) m f) := fun w' b => hR.next b
  have HQW : Hid (∀ w', Below w.heap.size w w' → ARow w' (.slice pa ls.length pc) ls) := fun w' b => Q.next b
  obtain ⟨i3, hi3, hz30, hz31, hz32⟩ := info_parts info3
  have hG := mgood (m : Int) (y : Int) (l : Int) (p : Int) (.slice ad m cap) c m f W (HRW.out W BW) (by omega) (fun x hx => by have := hf8 x hx; omega)
  rw [g] at hG
  have HAC : Hid (∀ w', Below w.heap.size w w' → Calls Try.prog 46 #[.slice pa ls.length pc] w' fun e w'' => e = .returned (.bool true) ∧ w'' = w') := fun w' b => by have h := mplaces ls _ w' (HQW.out w' b); rwa [a] at h
  have HCL : Hid (∀ w', Below w.heap.size w w' → Calls Try.prog 63 #[.agg #[.int .i64 (m : Int), .int .i64 (y : Int), .int .i64 (l : Int), .int .i64 (p : Int), .slice ad m cap, .int .i64 c]] w' fun e w'' => ∃ U, e = .returned (.agg #[.int .i64 (m : Int), .int .i64 (y : Int), .int .i64 (l : Int), .int .i64 (p : Int), .slice (some ⟨w'.heap.size + 1 + 1, 0, none⟩) m m, .int .i64 c]) ∧ Kx w'.heap.size w'' w'.heap.size (w'.heap.size + 1 + 1) m U f ∧ Below w'.heap.size w' w'') := fun w' b => mclone _ _ _ _ _ _ m f w' (arows_of (HRW.out w' b)) m2 hf8
  have y1 : 1 ≤ y := by omega
  have y2 : y ≤ 8 := by omega
  have p1 : 1 ≤ p := by omega
  have p2 : p ≤ 3 := by omega
  generalize ca m y l p ⟨f, c⟩ ls = CA at HOK HC0 HST ⊢
  obtain ⟨n, hn⟩ : ∃ n, ls.length = n := ⟨_, rfl⟩
  have HN0 : Hid (ls.length = n) := hn
  rw [hn] at HAC HOK HQW l200 HPL ⊢
  clear D0 D1 D2 BW hR HRW ok hsets hf8 hnew hm hl g a hpl hn Q hc
  subst hW
  go_enter Try.func34, Try.ntmps34
  go_wp2_with (first | (go_at_call 29; refine hG.mono ?_; rintro e w2 ⟨rfl, B2⟩; (obtain ⟨E0, E1, E2⟩ := HD.out w2 B2); (have e0 := E0.c0); (have e1 := E0.c1); (have e2 := E0.c2); (have e3 := E0.c3); (have e4 := E0.c4); (have e5 := E0.c5); (have ef := E0.f)) | (go_at_call 46; refine (HAC.out w2 (HBW.out.trans (B2.mono HBW.out.size))).mono ?_; rintro e w3 ⟨rfl, hw3⟩; subst w3) | (go_at_call 63; refine (HCL.out w2 (HBW.out.trans (B2.mono HBW.out.size))).mono ?_; rintro e w3 ⟨U0, rfl, K3, B3⟩))
  have hsz4 : (w3.alloc (.cells #[.int .i64 (m : Int), .int .i64 (y : Int), .int .i64 (l : Int), .int .i64 (p : Int), .slice (some ⟨w2.heap.size + 1 + 1, 0, none⟩) m m, .int .i64 c] 42)).heap.size = w3.heap.size + 1 := World.size_alloc _ _
  have hsz5 : ((w3.alloc (.cells #[.int .i64 (m : Int), .int .i64 (y : Int), .int .i64 (l : Int), .int .i64 (p : Int), .slice (some ⟨w2.heap.size + 1 + 1, 0, none⟩) m m, .int .i64 c] 42)).alloc (.cells #[.int .i64 0, .int .i64 0, .slice none 0 0] 57)).heap.size = w3.heap.size + 1 + 1 := by rw [World.size_alloc, hsz4]
  have K4 : Kx w2.heap.size (w3.alloc (.cells #[.int .i64 (m : Int), .int .i64 (y : Int), .int .i64 (l : Int), .int .i64 (p : Int), .slice (some ⟨w2.heap.size + 1 + 1, 0, none⟩) m m, .int .i64 c] 42)) w3.heap.size (w2.heap.size + 1 + 1) m U0 f := (K3.next alloc_b).rehead (by rw [hsz4]; omega) (by have := K3.hg; omega) (fun x hx e => by have := (K3.lt x hx _ e).2; omega) B3.size
  have hg3 := K3.hg
  have HL0 : Hid (Lw w2.heap.size w3.heap.size (w2.heap.size + 1 + 1) m (w3.heap.size + 1) ((w3.alloc (.cells #[.int .i64 (m : Int), .int .i64 (y : Int), .int .i64 (l : Int), .int .i64 (p : Int), .slice (some ⟨w2.heap.size + 1 + 1, 0, none⟩) m m, .int .i64 c] 42)).alloc (.cells #[.int .i64 0, .int .i64 0, .slice none 0 0] 57)) U0 (.slice none 0 0) (CA 0).s.L (CA 0).o (CA 0).h (CA 0).x) := by
    rw [HC0.out]
    have hc3 := C3.new (w3.alloc (.cells #[.int .i64 (m : Int), .int .i64 (y : Int), .int .i64 (l : Int), .int .i64 (p : Int), .slice (some ⟨w2.heap.size + 1 + 1, 0, none⟩) m m, .int .i64 c] 42)) 57 (.int .i64 0) (.int .i64 0) (.slice none 0 0)
    rw [hsz4] at hc3
    exact ⟨K4.next alloc_b, hc3, Ri.nil _ _ (by rw [hsz5]; have := B3.size; omega), fun x hx e => by have := (K4.lt x hx _ e).2; omega, fun q e => (by cases e), by omega, by omega, by have := B3.size; omega⟩
  have HC60 : Hid (C6 ((w3.alloc (.cells #[.int .i64 (m : Int), .int .i64 (y : Int), .int .i64 (l : Int), .int .i64 (p : Int), .slice (some ⟨w2.heap.size + 1 + 1, 0, none⟩) m m, .int .i64 c] 42)).alloc (.cells #[.int .i64 0, .int .i64 0, .slice none 0 0] 57)) w3.heap.size (.int .i64 (m : Int)) (.int .i64 (y : Int)) (.int .i64 (l : Int)) (.int .i64 (p : Int)) (.slice (some ⟨w2.heap.size + 1 + 1, 0, none⟩) m m) (.int .i64 (CA 0).s.coin)) := by rw [HC0.out]; exact (C6.new w3 42 (.int .i64 (m : Int)) (.int .i64 (y : Int)) (.int .i64 (l : Int)) (.int .i64 (p : Int)) (.slice (some ⟨w2.heap.size + 1 + 1, 0, none⟩) m m) (.int .i64 c)).next alloc_b
  have HB50 : Hid (Below w2.heap.size w2 ((w3.alloc (.cells #[.int .i64 (m : Int), .int .i64 (y : Int), .int .i64 (l : Int), .int .i64 (p : Int), .slice (some ⟨w2.heap.size + 1 + 1, 0, none⟩) m m, .int .i64 c] 42)).alloc (.cells #[.int .i64 0, .int .i64 0, .slice none 0 0] 57))) := (B3.alloc B3.size _).alloc (by rw [hsz4]; have := B3.size; omega) _
  have HB03 : Hid (Below w.heap.size w w2) := HBW.out.trans (B2.mono HBW.out.size)
  have HSZ : Hid (w.heap.size + 1 + 1 < w2.heap.size) := E2.hi
  have HHB : Hid (w.heap.size + 1 + 1 < w3.heap.size ∧ w.heap.size + 1 + 1 < w3.heap.size + 1) := by have := E2.hi; have := B3.size; exact ⟨by omega, by omega⟩
  have HE3 : Hid (∀ w', Below w2.heap.size w2 w' → C6 w' w.heap.size (.int .i64 (m : Int)) (.int .i64 (y : Int)) (.int .i64 (l : Int)) (.int .i64 (p : Int)) (.slice ad m cap) (.int .i64 c) ∧ C6 w' (w.heap.size + 1) (.int .i64 0) (.int .i64 0) (.int .i64 0) (.int .i64 0) (.slice none 0 0) (.int .i64 0) ∧ C3 w' (w.heap.size + 1 + 1) (.int .i64 0) (.int .i64 0) (.slice none 0 0)) := fun w' b => ⟨E0.next b, E1.next b, E2.next b⟩
  clear E0 E1 E2 e0 e1 e2 e3 e4 e5 ef B2 B3 K3 K4 hG HCL HAC HD HBW hsz4 hsz5 hg3
  generalize ((w3.alloc (.cells #[.int .i64 (m : Int), .int .i64 (y : Int), .int .i64 (l : Int), .int .i64 (p : Int), .slice (some ⟨w2.heap.size + 1 + 1, 0, none⟩) m m, .int .i64 c] 42)).alloc (.cells #[.int .i64 0, .int .i64 0, .slice none 0 0] 57)) = WS at HL0 HC60 HB50 ⊢
  generalize w3.heap.size + 1 = hb at HL0 HHB ⊢
  generalize w3.heap.size = cb at HL0 HC60 HHB ⊢
  generalize w2.heap.size + 1 + 1 = gm at HL0 HC60 ⊢
  go_loopw [28] (fun ii wr => ∃ (k : Nat) (U : Nat → Value) (u : Value), k ≤ n ∧ ii = .int .i64 k ∧ Hid (Lw w2.heap.size cb gm m hb wr U u (CA k).s.L (CA k).o (CA k).h (CA k).x) ∧ Hid (C6 wr cb (.int .i64 (m : Int)) (.int .i64 (y : Int)) (.int .i64 (l : Int)) (.int .i64 (p : Int)) (.slice (some ⟨gm, 0, none⟩) m m) (.int .i64 (CA k).s.coin)) ∧ Hid (Below w2.heap.size w2 wr)) (fun ii _ => n - (intOf ii).toNat)
  case atStart => exact ⟨0, U0, _, Nat.zero_le _, rfl, HL0, HC60, HB50⟩
  case round =>
   obtain ⟨k, U, u, hk, rfl, HL, HC, HBr⟩ := hrel
   by_cases hkn : k < n
   · have i1 : (k : Int) < (n : Int) := by omega
     have i0 : (0 : Int) ≤ (k : Int) := by omega
     have BWr : Below w.heap.size w wr := HB03.out.trans (HBr.out.mono HB03.out.size)
     obtain ⟨pa2, pc2, e1, e2⟩ := HQW.out wr BWr
     injection e1 with e1 e3 e4
     subst e1; subst e4
     obtain ⟨gq, oq, hpa, hcell⟩ := e2 k (by rw [HN0.out]; exact hkn)
     subst hpa
     have hpk := HPL.out k hkn
     have hok := HOK.out k hk
     have hst := HST.out k
     clear e2 e3
     have h64 := mread w2.heap.size cb gm m y l p m U (CA k).s.L (CA k).s.coin (ls.getD k 0) wr HC.out HL.out.K hok.1 m1 m2 y1 y2 l1 l2 p1 p2 hpk.1 hpk.2 (Nat.le_refl _)
     have hs1 : (CA (k + 1)).s = Cs.rd ⟨(CA k).s.L, (CA k).s.coin⟩ m y l p (ls.getD k 0) := by rw [hst]; rfl
     have hs2 : (CA (k + 1)).h = if Cs.hit ⟨(CA k).s.L, (CA k).s.coin⟩ m y l p (ls.getD k 0) = true then (CA k).h + 1 else (CA k).h := by rw [hst]; rfl
     have hs3 : (CA (k + 1)).x = if Cs.hit ⟨(CA k).s.L, (CA k).s.coin⟩ m y l p (ls.getD k 0) = true then (CA k).x else (CA k).x + 1 := by rw [hst]; rfl
     have hs4 : (CA (k + 1)).o = if Cs.out ⟨(CA k).s.L, (CA k).s.coin⟩ m y l p (ls.getD k 0) = -1 then (CA k).o else (CA k).o ++ [Cs.out ⟨(CA k).s.L, (CA k).s.coin⟩ m y l p (ls.getD k 0)] := by rw [hst]; rfl
     have hout : Cs.out ⟨(CA k).s.L, (CA k).s.coin⟩ m y l p (ls.getD k 0) = -1 ∨ 0 ≤ Cs.out ⟨(CA k).s.L, (CA k).s.coin⟩ m y l p (ls.getD k 0) ∧ Cs.out ⟨(CA k).s.L, (CA k).s.coin⟩ m y l p (ls.getD k 0) ≤ 1000000 := Cs.out_is hok.1 (by omega) (by omega) (by omega) hpk.1 hpk.2
     rw [← hs1] at h64
     generalize Cs.hit ⟨(CA k).s.L, (CA k).s.coin⟩ m y l p (ls.getD k 0) = HI at h64 hs2 hs3
     generalize Cs.out ⟨(CA k).s.L, (CA k).s.coin⟩ m y l p (ls.getD k 0) = OU at h64 hs4 hout
     have HX := Hid.mk h64
     obtain ⟨_, ha0, ha1, xa0, xa1, hM⟩ := hok
     clear h64 hs1 hst
     generalize ls.getD k 0 = pl at HX hcell hpk
     generalize (CA k).h = ha at HL hs2 ha0 ha1
     generalize (CA k).x = xa at HL hs3 xa0 xa1
     generalize (CA k).o = M at HL hs4 hM
     rcases hout with rfl | ⟨hO, hO2⟩
     · cases HI
       · rw [if_neg (by decide)] at hs2 hs3
         rw [if_pos rfl] at hs4
         have HS2 := Hid.mk hs2
         have HS3 := Hid.mk hs3
         have HS4 := Hid.mk hs4
         clear hs2 hs3 hs4
         go_wp2_with (go_at_call 64; refine HX.out.mono ?_; rintro e w8 ⟨rfl, C8, U8, K8, F8⟩; (have L8 := HL.out.mid K8 F8); (have q0 := L8.C.c0); (have q1 := L8.C.c1); (have q2 := L8.C.c2); (have qf := L8.C.f); (have L9 := L8.c1 (xa + 1)))
         go_roundw
         case rel => exact ⟨k + 1, U8, u, by omega, by go_num, by rw [HS2.out, HS3.out, HS4.out]; exact L9.1, C8.block L9.2.1 L9.2.2.size, (HBr.out.trans (F8.below HL.out.K)).trans L9.2.2⟩
         case measure => simp [intOf]; omega
       · rw [if_pos rfl] at hs2 hs3
         rw [if_pos rfl] at hs4
         have HS2 := Hid.mk hs2
         have HS3 := Hid.mk hs3
         have HS4 := Hid.mk hs4
         clear hs2 hs3 hs4
         go_wp2_with (go_at_call 64; refine HX.out.mono ?_; rintro e w8 ⟨rfl, C8, U8, K8, F8⟩; (have L8 := HL.out.mid K8 F8); (have q0 := L8.C.c0); (have q1 := L8.C.c1); (have q2 := L8.C.c2); (have qf := L8.C.f); (have L9 := L8.c0 (ha + 1)))
         go_roundw
         case rel => exact ⟨k + 1, U8, u, by omega, by go_num, by rw [HS2.out, HS3.out, HS4.out]; exact L9.1, C8.block L9.2.1 L9.2.2.size, (HBr.out.trans (F8.below HL.out.K)).trans L9.2.2⟩
         case measure => simp [intOf]; omega
     · cases HI
       · rw [if_neg (by decide)] at hs2 hs3
         rw [if_neg (show ¬ OU = -1 by omega)] at hs4
         have HS2 := Hid.mk hs2
         have HS3 := Hid.mk hs3
         have HS4 := Hid.mk hs4
         obtain ⟨ua, uc, hu, _⟩ := HL.out.R.arow
         subst hu
         have HLM : Hid (M.length ≤ 1000) := by have := hM; show _ ≤ _; omega
         clear hs2 hs3 hs4
         go_wp2_with (first | (go_at_call 64; refine HX.out.mono ?_; rintro e w8 ⟨rfl, C8, U8, K8, F8⟩; (have L8 := HL.out.mid K8 F8); (have q0 := L8.C.c0); (have q1 := L8.C.c1); (have q2 := L8.C.c2); (have qf := L8.C.f); (have L9 := L8.c1 (xa + 1)); (have p2 := L9.1.C.c2); (have HAR : ARow ((w8.setCell ⟨hb, 1, none⟩ (.int .i64 (xa + 1))).alloc (.cells #[.int .i64 OU] 3)) (.slice (some ⟨w8.heap.size, 0, none⟩) 1 1) [OU] := by have h := ARow.one (w8.setCell ⟨hb, 1, none⟩ (.int .i64 (xa + 1))) OU; rw [show (w8.setCell ⟨hb, 1, none⟩ (.int .i64 (xa + 1))).heap.size = w8.heap.size from by simp] at h; exact h)) | (at_builtin; refine wpList_append_ri _ _ Try.underlying23 hi3 hz30 hz31 hz32 rfl rfl rfl rfl (L9.1.R.alloc (.cells #[.int .i64 OU] 3)) HAR (by have := HLM.out; simp only [List.length_cons, List.length_nil]; omega) ?_))
         intro v5 w5 R5 G5 A5
         obtain ⟨D5, L5, b5, B5⟩ := L9.1.app G5 R5 (by simpa using A5)
         obtain ⟨va, vn, vc, rfl⟩ : ∃ va vn vc, v5 = .slice va vn vc := by obtain ⟨a, c, h, _⟩ := R5.arow; exact ⟨_, _, _, h⟩
         have d2 := D5.c2
         have df := D5.f
         clear R5 G5 A5
         go_wp2
         go_roundw
         case rel => exact ⟨k + 1, U8, _, by omega, by go_num, by rw [HS2.out, HS3.out, HS4.out]; exact L5, C8.block (b5.trans L9.2.1) (Nat.le_trans L9.2.2.size B5.size), ((HBr.out.trans (F8.below HL.out.K)).trans L9.2.2).trans B5⟩
         case measure => simp [intOf]; omega
       · rw [if_pos rfl] at hs2 hs3
         rw [if_neg (show ¬ OU = -1 by omega)] at hs4
         have HS2 := Hid.mk hs2
         have HS3 := Hid.mk hs3
         have HS4 := Hid.mk hs4
         obtain ⟨ua, uc, hu, _⟩ := HL.out.R.arow
         subst hu
         have HLM : Hid (M.length ≤ 1000) := by have := hM; show _ ≤ _; omega
         clear hs2 hs3 hs4
         go_wp2_with (first | (go_at_call 64; refine HX.out.mono ?_; rintro e w8 ⟨rfl, C8, U8, K8, F8⟩; (have L8 := HL.out.mid K8 F8); (have q0 := L8.C.c0); (have q1 := L8.C.c1); (have q2 := L8.C.c2); (have qf := L8.C.f); (have L9 := L8.c0 (ha + 1)); (have p2 := L9.1.C.c2); (have HAR : ARow ((w8.setCell ⟨hb, 0, none⟩ (.int .i64 (ha + 1))).alloc (.cells #[.int .i64 OU] 3)) (.slice (some ⟨w8.heap.size, 0, none⟩) 1 1) [OU] := by have h := ARow.one (w8.setCell ⟨hb, 0, none⟩ (.int .i64 (ha + 1))) OU; rw [show (w8.setCell ⟨hb, 0, none⟩ (.int .i64 (ha + 1))).heap.size = w8.heap.size from by simp] at h; exact h)) | (at_builtin; refine wpList_append_ri _ _ Try.underlying23 hi3 hz30 hz31 hz32 rfl rfl rfl rfl (L9.1.R.alloc (.cells #[.int .i64 OU] 3)) HAR (by have := HLM.out; simp only [List.length_cons, List.length_nil]; omega) ?_))
         intro v5 w5 R5 G5 A5
         obtain ⟨D5, L5, b5, B5⟩ := L9.1.app G5 R5 (by simpa using A5)
         obtain ⟨va, vn, vc, rfl⟩ : ∃ va vn vc, v5 = .slice va vn vc := by obtain ⟨a, c, h, _⟩ := R5.arow; exact ⟨_, _, _, h⟩
         have d2 := D5.c2
         have df := D5.f
         clear R5 G5 A5
         go_wp2
         go_roundw
         case rel => exact ⟨k + 1, U8, _, by omega, by go_num, by rw [HS2.out, HS3.out, HS4.out]; exact L5, C8.block (b5.trans L9.2.1) (Nat.le_trans L9.2.2.size B5.size), ((HBr.out.trans (F8.below HL.out.K)).trans L9.2.2).trans B5⟩
         case measure => simp [intOf]; omega
   · obtain rfl : n = k := by omega
     have i1 : ¬ (n : Int) < (n : Int) := by omega
     have hLv := HL.out
     obtain ⟨ua, uc, hu, _⟩ := hLv.R.arow
     subst hu
     go_wp2
     generalize hWW : World.drew _ = WX
     have B0 : Below wr.heap.size wr WX := by rw [← hWW]; exact below_drew (Below.refl _ _)
     have LX := hLv.next B0
     have CX := HC.out.next B0
     have B3X : Below w2.heap.size w2 WX := HBr.out.trans (B0.mono HBr.out.size)
     obtain ⟨I0, I1, I2⟩ := HE3.out WX B3X
     have BWX : Below w.heap.size w WX := HB03.out.trans (B3X.mono HB03.out.size)
     clear hLv HL HC HBr B0 B3X HE3 HL0 HC60 HB50 HB03 HQW HPL HOK HST
     refine wp_region_held_drew (S := fun v => C6 v cb (.int .i64 (m : Int)) (.int .i64 (y : Int)) (.int .i64 (l : Int)) (.int .i64 (p : Int)) (.slice (some ⟨gm, 0, none⟩) m m) (.int .i64 (CA n).s.coin) ∧ C3 v hb (.int .i64 (CA n).h) (.int .i64 (CA n).x) (.slice ua (CA n).o.length uc)) (by kernel_rfl) (by rw [hWW]; exact ⟨CX, LX.C⟩) (fun hH => ?_)
     rw [hWW] at hH ⊢
     clear hWW
     refine wpAnyH_take (i := 0) (oi := { dst := some 55, op := Op.load 42 (Operand.tmp 7), type := 42, pos := "l15_memory.go:167", after := #[], guard := none }) (v := .agg #[.int .i64 (m : Int), .int .i64 (y : Int), .int .i64 (l : Int), .int .i64 (p : Int), .slice (some ⟨gm, 0, none⟩) m m, .int .i64 (CA n).s.coin]) rfl (by kernel_rfl) (by kernel_rfl) (by kernel_rfl) (fun _ _ _ h => h) (Or.inl ⟨by rfl, fun w0 hSw => by (have e0 := hSw.1.c0; have e1 := hSw.1.c1; have e2 := hSw.1.c2; have e3 := hSw.1.c3; have e4 := hSw.1.c4; have e5 := hSw.1.c5; go_simp)⟩) hH ?_
     simp only [Act.put, List.setIfInBounds_toArray, List.set_cons_zero, List.set_cons_succ]
     refine wpAnyH_take (i := 1) (oi := { dst := some 56, op := Op.load 57 (Operand.tmp 8), type := 57, pos := "l15_memory.go:167", after := #[{ on := 2, ground := Ground.gcOnly Departure.lateStores }], guard := none }) (v := .agg #[.int .i64 (CA n).h, .int .i64 (CA n).x, .slice ua (CA n).o.length uc]) rfl (by kernel_rfl) (by kernel_rfl) (by kernel_rfl) (fun _ _ _ h => h) (Or.inl ⟨by rfl, fun w0 hSw => by (have e0 := hSw.2.c0; have e1 := hSw.2.c1; have e2 := hSw.2.c2; go_simp)⟩) hH ?_
     simp only [Act.put, List.setIfInBounds_toArray, List.set_cons_zero, List.set_cons_succ]
     refine wpAnyH_ready (rs := [2]) (by kernel_rfl) (by simp) ?_
     refine (AllReadyH.cons (o := { dst := none, op := Op.store 42 (Operand.tmp 4) (Operand.tmp 55), type := 0, pos := "l15_memory.go:167", after := #[{ on := 0, ground := Ground.data }, { on := 0, ground := Ground.phase }, { on := 1, ground := Ground.textOnly Departure.lateStores }], guard := none }) rfl (fun K hK => ?_) AllReadyH.nil)
     refine step_skip (set6 WX (w.heap.size + 1) (.int .i64 (m : Int)) (.int .i64 (y : Int)) (.int .i64 (l : Int)) (.int .i64 (p : Int)) (.slice (some ⟨gm, 0, none⟩) m m) (.int .i64 (CA n).s.coin)) (by rfl) (by unfold set6; have q0 := I1.c0; have q1 := I1.c1; have q2 := I1.c2; have q3 := I1.c3; have q4 := I1.c4; have q5 := I1.c5; have qf := I1.f; go_simp) ?_
     have S1 := only_set6 WX (w.heap.size + 1) (.int .i64 (m : Int)) (.int .i64 (y : Int)) (.int .i64 (l : Int)) (.int .i64 (p : Int)) (.slice (some ⟨gm, 0, none⟩) m m) (.int .i64 (CA n).s.coin)
     have I2a := I2.block (S1.block _ I2.hi (by omega)) S1.size
     have FN0 := I1.put (.int .i64 (m : Int)) (.int .i64 (y : Int)) (.int .i64 (l : Int)) (.int .i64 (p : Int)) (.slice (some ⟨gm, 0, none⟩) m m) (.int .i64 (CA n).s.coin)
     generalize (set6 WX (w.heap.size + 1) (.int .i64 (m : Int)) (.int .i64 (y : Int)) (.int .i64 (l : Int)) (.int .i64 (p : Int)) (.slice (some ⟨gm, 0, none⟩) m m) (.int .i64 (CA n).s.coin)) = V1 at I2a S1 FN0 ⊢
     have S2 := only_set3 V1 (w.heap.size + 1 + 1) (.int .i64 (CA n).h) (.int .i64 (CA n).x) (.slice ua (CA n).o.length uc)
     have HN := I2a.put (.int .i64 (CA n).h) (.int .i64 (CA n).x) (.slice ua (CA n).o.length uc)
     have J0 := CX.block (S1.block _ CX.hi (by have := HHB.out; omega)) S1.size
     have JH := LX.C.block (S1.block _ LX.C.hi (by have := HHB.out; omega)) S1.size
     refine hK.out _ _ ⟨J0, JH⟩ (fun hH' => ?_)
     clear hK K
     replace hH := hH'
     clear hH' 
     refine wpAnyH_ready (rs := [3]) (by kernel_rfl) (by simp) ?_
     refine (AllReadyH.cons (o := { dst := none, op := Op.store 57 (Operand.tmp 5) (Operand.tmp 56), type := 0, pos := "l15_memory.go:167", after := #[{ on := 1, ground := Ground.data }, { on := 2, ground := Ground.chain }, { on := 0, ground := Ground.phase }, { on := 1, ground := Ground.phase }, { on := 2, ground := Ground.phase }], guard := none }) rfl (fun K hK => ?_) AllReadyH.nil)
     refine step_skip (set3 V1 (w.heap.size + 1 + 1) (.int .i64 (CA n).h) (.int .i64 (CA n).x) (.slice ua (CA n).o.length uc)) (by rfl) (by unfold set3; have q0 := I2a.c0; have q1 := I2a.c1; have q2 := I2a.c2; have qf := I2a.f; go_simp) ?_
     generalize set3 V1 (w.heap.size + 1 + 1) (.int .i64 (CA n).h) (.int .i64 (CA n).x) (.slice ua (CA n).o.length uc) = V2 at HN S2 ⊢
     have J1 := J0.block (S2.block _ J0.hi (by have := HHB.out; omega)) S2.size
     have JK := JH.block (S2.block _ JH.hi (by have := HHB.out; omega)) S2.size
     refine hK.out _ _ ⟨J1, JK⟩ (fun hH' => ?_)
     clear hK K
     replace hH := hH'
     clear hH' 
     refine wpAnyH_take (i := 4) (oi := { dst := some 6, op := Op.assign (Operand.const (Value.bool true)), type := 4, pos := "l15_memory.go:167", after := #[{ on := 3, ground := Ground.chain }, { on := 0, ground := Ground.phase }, { on := 1, ground := Ground.phase }, { on := 2, ground := Ground.phase }, { on := 3, ground := Ground.phase }], guard := none }) (v := .bool true) rfl (by kernel_rfl) (by kernel_rfl) (by kernel_rfl) (fun _ _ _ h => h) (Or.inl ⟨by rfl, fun w0 hSw => by (go_simp)⟩) hH ?_
     simp only [Act.put, List.setIfInBounds_toArray, List.set_cons_zero, List.set_cons_succ]
     refine wpAnyH_done (by kernel_rfl) ?_ _
     have FN := FN0.block (S2.block _ FN0.hi (by omega)) S2.size
     have BS : Bs (fun k => k = w.heap.size + 1 ∨ k = w.heap.size + 1 + 1) WX V2 := (Bs.only S1 (Or.inl rfl)).trans (Bs.only S2 (Or.inr rfl))
     have BN : Below w.heap.size w V2 := BWX.trans (BS.below _ (fun k h => by rcases h with h | h <;> omega) (by have := I1.hi; omega))
     obtain ⟨RR, Y5, N5⟩ := LX.both (cp := m)
     have dj : ∀ R k, Rg w2.heap.size WX.heap.size R k → ¬ (k = w.heap.size + 1 ∨ k = w.heap.size + 1 + 1) := fun R k h e => by have h1 := h.1; have h2 := HSZ.out; omega
     have Y6 := (Y5.bs BS (dj RR)).mono (Q := Rg w.heap.size V2.heap.size RR) (fun k h => ⟨by have h1 := h.1; have h2 := HSZ.out; omega, Nat.lt_of_lt_of_le h.2.1 BS.size, h.2.2⟩)
     have N6 : Ny (Rg w.heap.size V2.heap.size (fun k => ¬ RR k)) _ _ _ _ := (N5.bs BS (dj _)).mono (fun k h => ⟨by have h1 := h.1; have h2 := HSZ.out; omega, Nat.lt_of_lt_of_le h.2.1 BS.size, h.2.2⟩)
     clear hH S1 S2 I2a Y5 N5 BS dj I0 I1 I2 LX CX BWX FN0 J0 J1 JH JK
     go_wp2
     have r0 := FN.c0
     have r1 := FN.c1
     have r2 := FN.c2
     have r3 := FN.c3
     have r4 := FN.c4
     have r5 := FN.c5
     have sh0 := HN.c0
     have sh1 := HN.c1
     have sh2 := HN.c2
     exact bodyPost_ret (v := .tuple #[.agg #[.int .i64 (m : Int), .int .i64 (y : Int), .int .i64 (l : Int), .int .i64 (p : Int), .slice (some ⟨gm, 0, none⟩) m m, .int .i64 (CA n).s.coin], .agg #[.int .i64 (CA n).h, .int .i64 (CA n).x, .slice ua (CA n).o.length uc], .bool true]) (by simp [results, Try.results34, go_sem, r0, r1, r2, r3, r4, r5, sh0, sh1, sh2]) rfl ⟨_, _, _, RR, rfl, Y6, N6, BN⟩
theorem ca_both (s y l q c : Int) (n : Nat) (f : Nat → List Int) (ls : List Int) (hn : n ≤ 1048576) (hl : ∀ x, x < n → (f x).length ≤ 1048576) (hls : ls.length ≤ 1048576) : ∃ (A0 A1 A2 A3 A5 : Int) (n' : Nat) (L' : Nat → List Int) (H X : Int) (M : List Int) (b : Bool), n' ≤ 64 ∧ (∀ x, x < n' → (L' x).length ≤ 8) ∧ M.length ≤ 200 ∧ (∀ w v pv, ARowsC w v n f → ARow w pv ls → Calls Try.prog 34 #[.agg #[.int .i64 s, .int .i64 y, .int .i64 l, .int .i64 q, v, .int .i64 c], pv] w fun e w' => ∃ a k u R, e = .returned (.tuple #[.agg #[.int .i64 A0, .int .i64 A1, .int .i64 A2, .int .i64 A3, .slice a n' k, .int .i64 A5], .agg #[.int .i64 H, .int .i64 X, u], .bool b]) ∧ Ay (Rg w.heap.size w'.heap.size R) w' (.slice a n' k) n' L' ∧ Ny (Rg w.heap.size w'.heap.size (fun k => ¬ R k)) w' u (fun i => M.getD i 0) M.length ∧ Below w.heap.size w w') ∧ (∀ w v pv, ARows w v n f → ARow w pv ls → Calls Try.prog 35 #[.agg #[.int .i64 s, .int .i64 y, .int .i64 l, .int .i64 q, v, .int .i64 c], pv] w fun e w' => ∃ a k u R, e = .returned (.tuple #[.agg #[.int .i64 A0, .int .i64 A1, .int .i64 A2, .int .i64 A3, .slice a n' k, .int .i64 A5], .agg #[.int .i64 H, .int .i64 X, u], .bool b]) ∧ Ay (Rg w.heap.size w'.heap.size R) w' (.slice a n' k) n' L' ∧ Ny (Rg w.heap.size w'.heap.size (fun k => ¬ R k)) w' u (fun i => M.getD i 0) M.length ∧ Below w.heap.size w w') := by
  have ne : ∀ (lo hi : Nat) (w : World), Ny (Rg lo hi (fun _ => ¬ True)) w (.slice none 0 0) (fun i => ([] : List Int).getD i 0) 0 := fun lo hi w => Or.inl ⟨rfl, none, 0, rfl⟩
  cases hb : (goodB s y l q n f c && accB ls)
  · exact ⟨0, 0, 0, 0, 0, 0, fun _ => [], 0, 0, [], false, Nat.zero_le _, fun x hx => absurd hx (Nat.not_lt_zero _), Nat.zero_le _, fun w v pv R Q => (mca_bad s y l q c v pv n f ls w R Q hn hl hls hb).mono fun e w' ⟨h1, h2⟩ => ⟨none, 0, _, fun _ => True, h1, (ax_none _ _ _ _).ay, ne _ _ _, h2⟩, fun w v pv R Q => (pca_bad s y l q c v pv n f ls w R Q hn hl hls hb).mono fun e w' ⟨h1, h2⟩ => ⟨none, 0, _, fun _ => True, h1, (ax_none _ _ _ _).ay, ne _ _ _, h2⟩⟩
  · obtain ⟨hg, ha⟩ : goodB s y l q n f c = true ∧ accB ls = true := by simpa using hb
    obtain ⟨hnew, hns, hc, hsets⟩ := goodB_iff hg
    obtain ⟨hm, hy, hli, hp⟩ := newB_iff hnew
    have g1 := (pwB_iff hm).2
    have g0 := (pwB_iff hm).1
    have g2 := (pwB_iff hli).1
    obtain ⟨yn, rfl⟩ : ∃ k : Nat, y = (k : Int) := ⟨y.toNat, by omega⟩
    obtain ⟨ln, rfl⟩ : ∃ k : Nat, l = (k : Int) := ⟨l.toNat, by omega⟩
    obtain ⟨pn, rfl⟩ : ∃ k : Nat, q = (k : Int) := ⟨q.toNat, by omega⟩
    subst hns
    obtain ⟨l200, hpl⟩ := accB_at ha
    have ok : Cs.ok ⟨f, c⟩ n yn := ⟨fun x hx => setB_P (hsets x hx), hc.1, by show c < 65536; omega⟩
    have ok2 := ca_ok n yn (ln : Int) (pn : Int) ⟨f, c⟩ ls ok (by omega) (by omega) g2 hpl ls.length (Nat.le_refl _)
    exact ⟨_, _, _, _, _, n, _, _, _, _, true, by omega, fun x hx => by have h := (ok2.1.1 x hx).1; exact Nat.le_trans h (by omega), by have := ok2.2.2.2.2.2; omega, fun w v pv R Q => mca_ok n yn ln pn c v pv f ls w R Q hg ha, fun w v pv R Q => pca_ok n yn ln pn c v pv f ls w R Q hg ha⟩
end Go.Proofs.Ytfhpjcojccfcoaa
