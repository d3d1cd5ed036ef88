/- The program's LeastMisses. -/
import Derived.Test.YtfhpjcojccfcoaaCt
namespace Go.Proofs.Ytfhpjcojccfcoaa
open Go.ChangeShapes Go.WideShapes Go.ChangeAt Go.RowKit
set_option linter.unusedVariables false
theorem stepG_k {y : Nat} {mv : Bool} {k1 k2 : Nat} {c coin : Int} {S : List Int} {n : Int} (h : S.length = y → k1 = k2) : stepG y mv k1 c coin S n = stepG y mv k2 c coin S n := by
  unfold stepG
  by_cases h1 : n ∈ S
  · rw [if_pos h1, if_pos h1]
  · rw [if_neg h1, if_neg h1]
    by_cases h2 : S.length = y
    · rw [if_pos h2, if_pos h2, h h2]
    · rw [if_neg h2, if_neg h2]
theorem stepG_coin (y : Nat) (mv : Bool) (k : Nat) (S : List Int) (n : Int) : (stepG y mv k 0 0 S n).2.1 = 0 := by
  unfold stepG
  split
  · rfl
  · split <;> rfl
theorem lm_P (y : Nat) (l : List Int) (i : Nat) : (lm y l (i + 1)).1 = (stepG y false (pk (fun j => (l.drop (i + 1)).idxOf ((lm y l i).1.getD j 0)) y) 0 0 (lm y l i).1 (l.getD i 0)).1 ∧ (lm y l (i + 1)).2 = (if (stepG y false (pk (fun j => (l.drop (i + 1)).idxOf ((lm y l i).1.getD j 0)) y) 0 0 (lm y l i).1 (l.getD i 0)).2.2.1 = true then (lm y l i).2 else (lm y l i).2 + 1) := by
  have h := lm_G y l i 0
  rw [stepG_k (k1 := pk (fun j => wt l i ((lm y l i).1.getD j 0)) (lm y l i).1.length) (k2 := pk (fun j => wt l i ((lm y l i).1.getD j 0)) y) (fun e => by rw [e])] at h
  refine ⟨h.1, h.2.trans ?_⟩
  show _ = if (stepG y false (pk (fun j => wt l i ((lm y l i).1.getD j 0)) y) 0 0 (lm y l i).1 (l.getD i 0)).2.2.1 = true then _ else _
  split <;> rfl
theorem Ri.blk {B : Nat} {w w' : World} {v : Value} {L : List Int} (h : Ri B w v L) (hb : ∀ q, v.ownBlock = some q → w'.heap[q]? = w.heap[q]?) (hs : w.heap.size ≤ w'.heap.size) : Ri B w' v L := by
  refine ⟨⟨h.1.1, ?_⟩, Nat.le_trans h.2 hs⟩
  rcases h.1.2 with e | ⟨g, cap, cur, e1, e2, e3, e4⟩
  · exact Or.inl e
  · exact Or.inr ⟨g, cap, cur, e1, e2, (hb g (by rw [e1]; rfl)).trans e3, e4⟩
/-- A cache of one set, its count of hits and misses, and what stays of the world they began in. -/
structure Lv (B lb z0 hb : Nat) (W w : World) (U : Nat → Value) (u : Value) (S M : List Int) (a b : Int) : Prop where
  K : Kx B w lb z0 1 U (fun _ => S)
  C : C3 w hb (.int .i64 a) (.int .i64 b) u
  R : Ri B w u M
  oU : ∀ q, (U 0).ownBlock = some q → W.heap.size ≤ q
  ou : ∀ q, u.ownBlock = some q → W.heap.size ≤ q ∧ (U 0).ownBlock ≠ some q
  fr : ∀ k, k < W.heap.size → k ≠ lb → k ≠ z0 → k ≠ hb → w.heap[k]? = W.heap[k]?
  os : w.os = W.os
  tape : w.tape = W.tape
  output : w.output = W.output
  hs : W.heap.size ≤ w.heap.size
  l1 : lb < W.heap.size
  z1 : z0 < W.heap.size
  h1 : hb < W.heap.size
  lh : lb ≠ hb
  zh : z0 ≠ hb
  bh : B ≤ hb
theorem Lv.below {B lb z0 hb : Nat} {W w : World} {U : Nat → Value} {u : Value} {S M : List Int} {a b : Int} (h : Lv B lb z0 hb W w U u S M a b) : Below B W w := by
  refine ⟨h.os, h.tape, h.output, h.hs, fun k hk => h.fr k ?_ ?_ ?_ ?_⟩ <;> have := h.K.bg <;> have := h.K.bh <;> have := h.bh <;> have := h.l1 <;> omega
theorem Lv.mid {B lb z0 hb : Nat} {W w w7 w8 : World} {U U' : Nat → Value} {u : Value} {S S' M : List Int} {a b : Int} {L8 : Nat → List Int} (h : Lv B lb z0 hb W w U u S M a b) (O : Only lb w w7) (K8 : Kx B w8 lb z0 1 U' L8) (hL : L8 0 = S') (F : Fr lb z0 1 U U' w7 w8) : Lv B lb z0 hb W w8 U' u S' M a b := by
  have hs1 := O.size
  have hs2 := F.size
  have hs0 := h.hs
  have h1 := h.h1
  have bb : ∀ k, k < w.heap.size → k ≠ lb → k ≠ z0 → (U 0).ownBlock ≠ some k → w8.heap[k]? = w.heap[k]? := fun k hk n1 n2 n3 => (F.block k (by omega) n1 n2 (fun x hx => show (U x).ownBlock ≠ some k from (show x = 0 by omega) ▸ n3)).trans (O.block k hk n1)
  have nU : ∀ k, k < W.heap.size → (U 0).ownBlock ≠ some k := fun k hk e => by have := h.oU k e; omega
  refine ⟨⟨K8.c, fun x hx => ?_, K8.ap, K8.ng, K8.nh, K8.gh, K8.f, K8.hg, K8.hh, K8.bg, K8.bh⟩, h.C.block (bb hb (by omega) h.lh.symm h.zh.symm (nU hb h1)) (by omega), h.R.blk (fun q hq => ?_) (by omega), fun q hq => ?_, fun q hq => ⟨(h.ou q hq).1, fun e => ?_⟩, fun k hk n1 n2 n3 => (bb k (by omega) n1 n2 (nU k hk)).trans (h.fr k hk n1 n2 n3), F.os.trans (O.os.trans h.os), F.tape.trans (O.tape.trans h.tape), F.output.trans (O.output.trans h.output), by omega, h.l1, h.z1, h.h1, h.lh, h.zh, h.bh⟩
  · obtain rfl : x = 0 := by omega
    have := K8.r 0 hx
    rw [hL] at this
    exact this
  · have q1 := h.ou q hq
    have q2 := h.l1
    have q3 := h.z1
    exact bb q (h.R.lt q hq).2 (by omega) (by omega) q1.2
  · rcases F.own 0 (by omega) q hq with e | e
    · exact h.oU q e
    · omega
  · rcases F.own 0 (by omega) q e with e | e
    · exact (h.ou q hq).2 e
    · have := (h.R.lt q hq).2; omega
theorem Lv.fin {B lb z0 hb : Nat} {W w w' : World} {U : Nat → Value} {u u' : Value} {S M M' : List Int} {a b a' b' : Int} (h : Lv B lb z0 hb W w U u S M a b) (c : Ct hb u u' w w') (C9 : C3 w' hb (.int .i64 a') (.int .i64 b') u') (R9 : Ri B w' u' M') : Lv B lb z0 hb W w' U u' S M' a' b' ∧ w'.heap[lb]? = w.heap[lb]? := by
  have hs1 := c.size
  have hs0 := h.hs
  have nu : ∀ k, k < W.heap.size → some k ≠ u.ownBlock := fun k hk e => by have := (h.ou k e.symm).1; omega
  refine ⟨⟨h.K.ct c h.lh h.zh (nu _ h.l1) (nu _ h.z1) (fun x hx q hq => ?_), C9, R9, h.oU, fun q hq => ⟨?_, fun e => ?_⟩, fun k hk n1 n2 n3 => (c.block k (by omega) n3 (nu k hk)).trans (h.fr k hk n1 n2 n3), c.os.trans h.os, c.tape.trans h.tape, c.output.trans h.output, by omega, h.l1, h.z1, h.h1, h.lh, h.zh, h.bh⟩, c.block lb h.K.hh h.lh (nu _ h.l1)⟩
  · obtain rfl : x = 0 := by omega
    have := h.oU q hq
    have := h.h1
    exact ⟨by omega, fun e => (h.ou q e.symm).2 hq⟩
  · rcases c.own q hq with e | e
    · exact (h.ou q e).1
    · omega
  · rcases c.own q hq with e1 | e1
    · exact (h.ou q e1).2 e
    · have := (h.K.lt 0 (by omega) q e).2; omega
set_option maxRecDepth 100000 in
set_option maxHeartbeats 2000000 in
theorem pleast (l0 : List Int) (v : Value) (yI ln0 : Int) (w : World) (Q : ARow w v l0) (hsm : l0.length ≤ 1048576) : Calls Try.prog 40 #[v, .int .i64 yI, .int .i64 ln0] w fun e w' => e = .returned (.tuple #[.int .i64 (leastZ l0 yI ln0), .bool (leastB l0 yI ln0)]) ∧ Below w.heap.size w w' := by
  obtain ⟨iS, hiS, hzS0, hzS1, hzS2⟩ := info_parts infoS
  have h43 := paccs l0 v w Q hsm
  have HQ : Hid (∀ w', Below w.heap.size w w' → ARow w' v l0) := fun w' b => Q.next b
  obtain ⟨oa, oc, rfl, hoa⟩ := Q
  have HZ : Hid (leastZ l0 yI ln0 = if leastB l0 yI ln0 = true then ((lm yI.toNat (linesL l0 ln0) l0.length).2 : Int) else 0) := rfl
  have HBB : Hid (leastB l0 yI ln0 = (accB l0 && ((decide (1 ≤ yI) && decide (yI ≤ 8)) && pwB ln0 16 256))) := rfl
  generalize leastZ l0 yI ln0 = Z at HZ ⊢
  generalize leastB l0 yI ln0 = BB at HZ HBB ⊢
  cases hA : accB l0
  case false =>
    rw [hA] at h43
    have HBF : Hid (BB = false) := by show _ = _; rw [HBB.out, hA]; rfl
    have HZ0 : Hid (Z = 0) := by show _ = _; rw [HZ.out, HBF.out]; rfl
    clear hA hoa
    go_enter Try.func40, Try.ntmps40
    go_wp2_with (first | (go_at_call 43; refine h43.mono ?_; rintro e w2 ⟨rfl, B2⟩))
    go_ret2
    exact ⟨by rw [HBF.out, HZ0.out]; rfl, B2⟩
  rw [hA] at h43
  cases hY : (decide (1 ≤ yI) && decide (yI ≤ 8))
  case false =>
    have HW : Hid (∀ w, Calls Try.prog 61 #[.int .i64 yI] w fun e w' => e = .returned (.bool false) ∧ w' = w) := fun w => by have := pways yI w; rwa [hY] at this
    have HBF : Hid (BB = false) := by show _ = _; rw [HBB.out, hY]; simp
    have HZ0 : Hid (Z = 0) := by show _ = _; rw [HZ.out, HBF.out]; rfl
    clear hA hoa hY
    go_enter Try.func40, Try.ntmps40
    go_wp2_with (first | (go_at_call 43; refine h43.mono ?_; rintro e w2 ⟨rfl, B2⟩) | (go_at_call 61; refine (HW.out _).mono ?_; rintro e w3 ⟨rfl, hw3⟩; subst w3))
    go_ret2
    exact ⟨by rw [HBF.out, HZ0.out]; rfl, B2⟩
  have HW : Hid (∀ w, Calls Try.prog 61 #[.int .i64 yI] w fun e w' => e = .returned (.bool true) ∧ w' = w) := fun w => by have := pways yI w; rwa [hY] at this
  cases hL : pwB ln0 16 256
  case false =>
    have HPW : Hid (∀ w, Calls Try.prog 49 #[.int .i64 ln0, .int .i64 16, .int .i64 256] w fun e w' => e = .returned (.bool false) ∧ w' = w) := fun w => by have := ppower ln0 16 256 w (by decide) (by decide); rwa [hL] at this
    have HBF : Hid (BB = false) := by show _ = _; rw [HBB.out, hL]; simp
    have HZ0 : Hid (Z = 0) := by show _ = _; rw [HZ.out, HBF.out]; rfl
    clear hA hoa hL hY
    go_enter Try.func40, Try.ntmps40
    go_wp2_with (first | (go_at_call 43; refine h43.mono ?_; rintro e w2 ⟨rfl, B2⟩) | (go_at_call 61; refine (HW.out _).mono ?_; rintro e w3 ⟨rfl, hw3⟩; subst w3) | (go_at_call 49; refine (HPW.out _).mono ?_; rintro e w3 ⟨rfl, hw3⟩; subst w3))
    go_ret2
    exact ⟨by rw [HBF.out, HZ0.out]; rfl, B2⟩
  have HPW : Hid (∀ w, Calls Try.prog 49 #[.int .i64 ln0, .int .i64 16, .int .i64 256] w fun e w' => e = .returned (.bool true) ∧ w' = w) := fun w => by have := ppower ln0 16 256 w (by decide) (by decide); rwa [hL] at this
  have l16 := (pwB_iff hL).1
  have l256 := (pwB_iff hL).2
  have hY2 : 1 ≤ yI ∧ yI ≤ 8 := by simpa using hY
  obtain ⟨y, rfl⟩ : ∃ y : Nat, yI = (y : Int) := ⟨yI.toNat, by omega⟩
  obtain ⟨l, rfl⟩ : ∃ l : Nat, ln0 = (l : Int) := ⟨ln0.toNat, by omega⟩
  have HBT : Hid (BB = true) := by show _ = _; rw [HBB.out, hA, hY, hL]; rfl
  have HZ1 : Hid (Z = ((lm y (linesL l0 (l : Int)) l0.length).2 : Int)) := by show _ = _; rw [HZ.out, HBT.out, if_pos rfl]; rfl
  obtain ⟨hl200, hP⟩ := accB_at hA
  have HP := Hid.mk hP
  have HAT : Hid (∀ k, k < l0.length → (linesL l0 (l : Int)).getD k 0 = l0.getD k 0 / (l : Int)) := linesL_at l0 (l : Int)
  have HLL : Hid ((linesL l0 (l : Int)).length = l0.length) := linesL_len l0 (l : Int)
  have y1 : 1 ≤ y := by omega
  have y8 : y ≤ 8 := by omega
  have H52 : Hid (∀ w', Below w.heap.size w w' → Calls Try.prog 52 #[.slice oa l0.length oc, .int .i64 (l : Int)] w' fun e w'' => ∃ u, e = .returned u ∧ Ri w'.heap.size w'' u (linesL l0 (l : Int)) ∧ Below w'.heap.size w' w'') := fun w' b => plines l0 _ (l : Int) w' (HQ.out _ b) hA (by omega)
  have HOK : Hid (∀ k, (lm y (linesL l0 (l : Int)) k).1.length ≤ y ∧ (lm y (linesL l0 (l : Int)) k).1.Nodup ∧ (lm y (linesL l0 (l : Int)) k).2 ≤ k) := lm_ok y (by omega) _
  generalize linesL l0 (l : Int) = lines at HZ1 HAT HLL HOK H52
  clear hoa hP hA hL hY HBB HZ hY2
  obtain ⟨n, hn⟩ : ∃ n, l0.length = n := ⟨_, rfl⟩
  have HQN : Hid (∀ w', Below w.heap.size w w' → ARow w' (.slice oa n oc) l0) := fun w' b => by have h := HQ.out w' b; rw [hn] at h; exact h
  have HN0 : Hid (l0.length = n) := hn
  rw [hn] at HP hl200 HZ1 HAT HLL h43 H52 ⊢
  clear hn HQ
  go_enter Try.func40, Try.ntmps40
  go_wp2_with (first | (go_at_call 43; refine h43.mono ?_; rintro e w2 ⟨rfl, B2⟩) | (go_at_call 61; refine (HW.out _).mono ?_; rintro e w3 ⟨rfl, hw3⟩; subst w3) | (go_at_call 49; refine (HPW.out _).mono ?_; rintro e w3 ⟨rfl, hw3⟩; subst w3) | (at_make; refine wpList_make_full _ rfl _ _ 40 rfl w2.heap.size 23 iS (.slice none 0 0) 1 Try.underlying40 hiS hzS0 hzS1 _ _ _ _ 1 rfl rfl (by first | rfl | omega) (by first | rfl | omega) (by rw [hzS2]; omega) (by unfold maxLen; omega) (by simp) ?_; intro w3 hown3 hgrow3) | (go_at_call 52; refine (H52.out _ (((B2.grown hgrow3 B2.size (by simp)) : Below w.heap.size w w3).alloc (Nat.le_trans B2.size hgrow3.size) _)).mono ?_; rintro e w4 ⟨lv, rfl, RL, B4⟩))
  have O3 : Own w3 w2.heap.size 1 (fun _ => .slice none 0 0) := own_made hown3
  have B3 : Below w.heap.size w w3 := B2.grown hgrow3 B2.size (by simp)
  have s23 := O3.hi
  have sw2 := B2.size
  have s3a : ∀ o, (w3.alloc o).heap.size = w3.heap.size + 1 := fun o => World.size_alloc _ _
  have s4a : ∀ o, (w4.alloc o).heap.size = w4.heap.size + 1 := fun o => World.size_alloc _ _
  have s34 := B4.size
  rw [s3a] at s34
  have K0 : Kx w.heap.size (w3.alloc (.cells #[.slice (some ⟨w2.heap.size, 0, none⟩) 1 1, .int .i64 (y : Int), .int .i64 (l : Int), .nilIface, .int .i64 0] 92)) w3.heap.size w2.heap.size 1 (fun _ => .slice none 0 0) (fun _ => []) := ⟨fun x hx => cell_nx (O3.cell x hx) alloc_b, fun x hx => Ri.nil _ _ (by rw [s3a]; omega), fun x y hx hy hne => absurd hne (by omega), fun x hx e => (by cases e), fun x hx e => (by cases e), by omega, fun i => ((alloc_b (v := w3)).frozen (p := ⟨w2.heap.size, i, none⟩) s23).trans (O3.free i), by rw [s3a]; omega, by rw [s3a]; omega, sw2, by omega⟩
  have C0 := C5.new w3 92 (.slice (some ⟨w2.heap.size, 0, none⟩) 1 1) (.int .i64 (y : Int)) (.int .i64 (l : Int)) .nilIface (.int .i64 0)
  have HC : Hid (C5 (w4.alloc (.cells #[.int .i64 0, .int .i64 0, .slice none 0 0] 57)) w3.heap.size (.slice (some ⟨w2.heap.size, 0, none⟩) 1 1) (.int .i64 (y : Int)) (.int .i64 (l : Int)) .nilIface (.int .i64 0)) := (C0.next B4).next alloc_b
  have HV : Hid (Lv w.heap.size w3.heap.size w2.heap.size w4.heap.size (w4.alloc (.cells #[.int .i64 0, .int .i64 0, .slice none 0 0] 57)) (w4.alloc (.cells #[.int .i64 0, .int .i64 0, .slice none 0 0] 57)) (fun _ => .slice none 0 0) (.slice none 0 0) [] [] 0 0) := ⟨(K0.next B4).next alloc_b, C3.new _ _ _ _ _, Ri.nil _ _ (by rw [s4a]; omega), fun q e => (by cases e), fun q e => (by cases e), fun _ _ _ _ _ => rfl, rfl, rfl, rfl, Nat.le_refl _, by rw [s4a]; omega, by rw [s4a]; omega, by rw [s4a]; omega, by omega, by omega, by omega⟩
  have HRL : Hid (Ri w.heap.size (w4.alloc (.cells #[.int .i64 0, .int .i64 0, .slice none 0 0] 57)) lv lines) := (RL.up (by rw [s3a]; omega)).alloc _
  have HRQ : Hid (∀ q, lv.ownBlock = some q → q ≠ w3.heap.size ∧ q ≠ w2.heap.size ∧ q ≠ w4.heap.size) := fun q hq => by
    have h := RL.lt q hq
    rw [s3a] at h
    omega
  have HBW : Hid (Below w.heap.size w (w4.alloc (.cells #[.int .i64 0, .int .i64 0, .slice none 0 0] 57))) := ((B3.alloc B3.size _).trans (B4.mono (by rw [s3a]; omega))).alloc (by omega) _
  clear O3 B3 s23 sw2 s34 K0 C0 RL B4 hown3 hgrow3 B2
  generalize w4.alloc (.cells #[.int .i64 0, .int .i64 0, .slice none 0 0] 57) = W at HC HV HRL HBW ⊢
  clear s3a s4a
  generalize w2.heap.size = z0 at HC HV HRQ ⊢
  generalize w3.heap.size = lb at HC HV HRQ ⊢
  generalize w4.heap.size = hb at HV HRQ ⊢
  go_loopw [39] (fun ii wr => ∃ (i : Nat) (U : Nat → Value) (u : Value) (M : List Int) (a : Int) (pv : Value), i ≤ n ∧ ii = .int .i64 i ∧ Hid (Lv w.heap.size lb z0 hb W wr U u (lm y lines i).1 M a ((lm y lines i).2 : Int)) ∧ Hid (C5 wr lb (.slice (some ⟨z0, 0, none⟩) 1 1) (.int .i64 (y : Int)) (.int .i64 (l : Int)) pv (.int .i64 0)) ∧ M.length ≤ i ∧ 0 ≤ a ∧ a ≤ i) (fun ii _ => n - (intOf ii).toNat)
  case atStart => exact ⟨0, _, _, _, _, _, Nat.zero_le _, rfl, HV, HC, Nat.le_refl _, Int.le_refl _, Int.le_refl _⟩
  case round =>
    obtain ⟨i, U, u, M, a, pv, hi, rfl, HX, HCX, hM, ha0, ha1⟩ := hrel
    have HBX : Hid (Below w.heap.size w wr) := HBW.out.trans HX.out.below
    by_cases hin : i < n
    case neg =>
      obtain rfl : n = i := by omega
      have i1 : ¬ (n : Int) < (n : Int) := by omega
      have c1 := HX.out.C.c1
      go_wp2
      go_ret2
      exact ⟨by rw [HBT.out, HZ1.out]; rfl, HBX.out⟩
    have i1 : (i : Int) < (n : Int) := by omega
    have i0 : (0 : Int) ≤ (i : Int) := by omega
    obtain ⟨ad, c, e0, hoa⟩ := HQN.out wr HBX.out
    injection e0 with e1 e2 e3
    subst e1
    obtain ⟨g, o, rfl, hcp⟩ := hoa i (by rw [HN0.out]; exact hin)
    have hpl := HP.out i hin
    have hat := HAT.out i hin
    have HRX : Hid (Ri w.heap.size wr lv lines) := HRL.out.blk (fun q hq => HX.out.fr q (HRL.out.lt q hq).2 (HRQ.out q hq).1 (HRQ.out q hq).2.1 (HRQ.out q hq).2.2) HX.out.hs
    obtain ⟨gl, cr, rfl, hcr⟩ : ∃ gl cr, lv = .slice (some ⟨gl, 0, none⟩) n cr ∧ n ≤ cr := by
      rcases ri_cases HRX.out with ⟨h1, h2⟩ | ⟨g, c, h1, h2, _, _⟩
      · have h3 := HLL.out
        rw [h1] at h3
        exact absurd h3 (by simp; omega)
      · rw [HLL.out] at h1 h2
        exact ⟨g, c, h1, h2⟩
    have HLN := HLL
    obtain ⟨pl, hpl0⟩ : ∃ pl, l0.getD i 0 = pl := ⟨_, rfl⟩
    rw [hpl0] at hcp hpl hat
    obtain ⟨d1, d2, d3⟩ := div_line hpl.1 hpl.2 (show (1 : Int) ≤ (l : Int) by omega)
    rw [← hat] at d1 d2 d3
    clear e2 e3 hoa hpl0
    have f3 := HCX.out.f 3
    have q3 := HCX.out.c3
    have hlm := lm_P y lines i
    have hco := stepG_coin y false (pk (fun j => (lines.drop (i + 1)).idxOf ((lm y lines i).1.getD j 0)) y) (lm y lines i).1 (lines.getD i 0)
    obtain ⟨R1, hR1⟩ : ∃ R1, stepG y false (pk (fun j => (lines.drop (i + 1)).idxOf ((lm y lines i).1.getD j 0)) y) 0 0 (lm y lines i).1 (lines.getD i 0) = R1 := ⟨_, rfl⟩
    rw [hR1] at hlm hco
    have hok := HOK.out i
    have hgl : gl ≠ lb := (HRQ.out gl rfl).1
    have hdl : (lines.drop (i + 1)).length = n - (i + 1) := by rw [List.length_drop, HLL.out]
    have H67 : Hid (∀ (ca : Option Addr) (cc : Nat), ARow wr (.slice ca (n - (i + 1)) cc) (lines.drop (i + 1)) → (Value.slice ca (n - (i + 1)) cc).ownBlock ≠ some lb → Calls Try.prog 67 #[.pointer (some ⟨lb, 0, none⟩), .int .i64 pl] (wr.setCell ⟨lb, 3, none⟩ (.iface 96 (.agg #[.slice ca (n - (i + 1)) cc]))) fun e w8 => e = .returned (.tuple #[.bool R1.2.2.1, .int .i64 R1.2.2.2]) ∧ ∃ U' pv', Lv w.heap.size lb z0 hb W w8 U' u (lm y lines (i + 1)).1 M a ((lm y lines i).2 : Int) ∧ C5 w8 lb (.slice (some ⟨z0, 0, none⟩) 1 1) (.int .i64 (y : Int)) (.int .i64 (l : Int)) pv' (.int .i64 0)) := fun ca cc QC0 hnb => by
      have O7 : Only lb wr (wr.setCell ⟨lb, 3, none⟩ (.iface 96 (.agg #[.slice ca (n - (i + 1)) cc]))) := (Only.refl _ _).setCell _ _
      have C7 := HCX.out.s3 (.iface 96 (.agg #[.slice ca (n - (i + 1)) cc]))
      have K7 := (HX.out.K.head O7).1
      have QC := QC0.grown (r := some lb) ⟨O7.os, O7.tape, O7.output, O7.size, fun k hk hne => O7.block k hk (fun q => hne (by rw [q]))⟩ (fun _ => hnb)
      have h := pread4 w.heap.size lb z0 1 1 y l 0 U (fun _ => (lm y lines i).1) 0 pl (lines.getD i 0) ca cc (lines.drop (i + 1)) (wr.setCell ⟨lb, 3, none⟩ (.iface 96 (.agg #[.slice ca (n - (i + 1)) cc]))) (by rw [hdl]; exact C7) K7 (by omega) (by omega) (Nat.le_refl _) d1 (by omega) (by rw [Int.natCast_one, Int.tmod_one]; rfl) d2 d3 (by have := hok.1; omega) y1 y8 hpl.1 hpl.2 (by rw [hdl]; exact QC) (by rw [hdl]; omega)
      rw [hR1, hco] at h
      refine h.mono ?_
      rintro e w8 ⟨rfl, C8, U8, K8, F8⟩
      exact ⟨rfl, U8, _, Lv.mid HX.out O7 K8 (by rw [hlm.1]; rfl) F8, C8⟩
    have H69 : Hid (∀ (w8 : World) (U8 : Nat → Value), Lv w.heap.size lb z0 hb W w8 U8 u (lm y lines (i + 1)).1 M a ((lm y lines i).2 : Int) → Calls Try.prog 69 #[.pointer (some ⟨hb, 0, none⟩), .bool R1.2.2.1, .int .i64 R1.2.2.2] w8 fun e w9 => e = .returned (.tuple #[]) ∧ ∃ u' M' a', Lv w.heap.size lb z0 hb W w9 U8 u' (lm y lines (i + 1)).1 M' a' ((lm y lines (i + 1)).2 : Int) ∧ w9.heap[lb]? = w8.heap[lb]? ∧ w8.heap.size ≤ w9.heap.size ∧ M'.length ≤ i + 1 ∧ 0 ≤ a' ∧ a' ≤ ((i + 1 : Nat) : Int)) := fun w8 U8 V8 => by
      have h := pcount w.heap.size hb a ((lm y lines i).2 : Int) R1.2.2.2 u M R1.2.2.1 w8 V8.C V8.R (fun e => by have := (V8.ou hb e).1; have := V8.h1; omega) ha0 (by omega) (by omega) (by have := hok.2.2; omega) (by omega)
      refine h.mono ?_
      rintro e w9 ⟨rfl, u9, C9, R9, hne, c9⟩
      have hb' : (if R1.2.2.1 = true then ((lm y lines i).2 : Int) else ((lm y lines i).2 : Int) + 1) = ((lm y lines (i + 1)).2 : Int) := by
        rw [hlm.2]
        split <;> simp
      rw [hb'] at C9
      have V9 := V8.fin c9 C9 R9
      refine ⟨rfl, u9, _, _, V9.1, V9.2, c9.size, ?_, ?_, ?_⟩
      · split
        · omega
        · rw [List.length_append]; show M.length + 1 ≤ _; omega
      · split <;> omega
      · split <;> omega
    have QB : Hid (ARow wr (.slice (some ⟨gl, i + 1, none⟩) (n - (i + 1)) (cr - (i + 1))) (lines.drop (i + 1))) := by have h := HRX.out.arow.drop (i + 1) (cr - (i + 1)); rw [Nat.zero_add] at h; exact h
    have QA : Hid (cr = i + 1 → ARow wr (.slice (some ⟨gl, 0, none⟩) (n - (i + 1)) 0) (lines.drop (i + 1))) := fun h => by
      have e : n - (i + 1) = 0 := by omega
      rw [e]
      exact ARow.none _ _ _ (List.drop_eq_nil_of_le (by rw [HLL.out]; omega))
    have QI : Hid (ARow wr (.slice (if cr = i + 1 then some ⟨gl, 0, none⟩ else some ⟨gl, i + 1, none⟩) (n - (i + 1)) (cr - (i + 1))) (lines.drop (i + 1))) := by
      show ARow _ _ _
      by_cases e : cr = i + 1
      · rw [if_pos e, show cr - (i + 1) = 0 by omega]; exact QA.out e
      · rw [if_neg e]; exact QB.out
    have QN : Hid ((Value.slice (if cr = i + 1 then some ⟨gl, 0, none⟩ else some ⟨gl, i + 1, none⟩) (n - (i + 1)) (cr - (i + 1))).ownBlock ≠ some lb) := by
      show _ ≠ _
      by_cases e : cr = i + 1
      · rw [if_pos e]; exact fun e => hgl (Option.some.inj e)
      · rw [if_neg e]; exact fun e => hgl (Option.some.inj e)
    generalize R1.2.2.1 = hit at H67 H69
    generalize R1.2.2.2 = out at H67 H69
    clear hlm hco hR1 hok hdl hgl hat d1 d2 d3 QA QB
    go_wp2_with (first | (go_at_call 67; refine (H67.out _ _ QI.out QN.out).mono ?_; rintro e w8 ⟨rfl, U8, pv8, V8, C8⟩) | (go_at_call 69; refine (H69.out w8 U8 V8).mono ?_; rintro e w9 ⟨rfl, u9, M9, a9, V9, b9, s9, m9, x9, y9⟩))
    all_goals
      go_roundw
      case rel => exact ⟨i + 1, U8, u9, M9, a9, pv8, by omega, by go_num, V9, C8.block b9 s9, m9, x9, y9⟩
      case measure => simp [intOf]; omega
end Go.Proofs.Ytfhpjcojccfcoaa
