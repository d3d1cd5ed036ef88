/- The first fault of a list: l19Check and CheckList of the model. -/
import Derived.Test.YtnbpncjbfnhkjaaVg
namespace Go.Proofs.Ytnbpncjbfnhkjaa
open Go.ChangeShapes Go.WideShapes Go.ChangeAt Go.RowKit
set_option linter.unusedVariables false
theorem ck_cases (f : Nat → Int) (n : Nat) : ((∀ j, j < n → f j = 0) ∧ ckC f n = 0 ∧ ckA f n = 0) ∨ ∃ i, i < n ∧ (∀ j, j < i → f j = 0) ∧ f i ≠ 0 ∧ ckC f n = f i ∧ ckA f n = i := by
  have h : ∀ n, (∀ j, j < n → f j = 0) ∨ ∃ i, i < n ∧ (∀ j, j < i → f j = 0) ∧ f i ≠ 0 := by
    intro n
    induction n with
    | zero => exact Or.inl (fun j hj => absurd hj (Nat.not_lt_zero _))
    | succ n ih =>
      rcases ih with h | ⟨i, h1, h2, h3⟩
      · by_cases e : f n = 0
        · exact Or.inl (fun j hj => if ej : j = n then ej ▸ e else h j (by omega))
        · exact Or.inr ⟨n, by omega, h, e⟩
      · exact Or.inr ⟨i, by omega, h2, h3⟩
  rcases h n with h | ⟨i, h1, h2, h3⟩
  · exact Or.inl ⟨h, ck_no h⟩
  · exact Or.inr ⟨i, h1, h2, h3, ck_at h2 h1 h3⟩
/-- Behind the good ones the first that is not. -/
theorem ck_bad {f : Nat → Int} {n k : Nat} (hk : k < n) (h1 : f k = 1) : (ckC f k ≠ 0 → ckC f n = ckC f k ∧ ckA f n = ckA f k) ∧ (ckC f k = 0 → ckC f n = 1 ∧ ckA f n = k) := by
  rcases ck_cases f k with ⟨h, e1, e2⟩ | ⟨i, a, b, c, e1, e2⟩
  · have q := ck_at h hk (by rw [h1]; decide)
    rw [h1] at q
    exact ⟨fun h => absurd e1 h, fun _ => q⟩
  · have q := ck_at (n := n) b (by omega) c
    rw [e1, e2]
    exact ⟨fun _ => q, fun h => absurd h c⟩
theorem info4b : (Try.prog.info? 4).map (fun i => (i.zero, i.size, i.bytes)) = some (some (.bool false), 1, 1) := by kernel_rfl
theorem info3 : (Try.prog.info? 3).map (fun i => (i.zero, i.size, i.bytes)) = some (some (.int .i64 0), 1, 8) := by kernel_rfl
set_option maxHeartbeats 2000000 in
theorem muses (k : Int) (w : World) : Calls Try.prog 34 #[.int .i64 k] w fun e w' => e = .returned (.bool (decide (1 ≤ k ∧ k ≤ 3))) ∧ w' = w := by
  by_cases h1 : 1 ≤ k
  · by_cases h2 : k ≤ 3
    · rw [decide_eq_true ⟨h1, h2⟩]
      go_enter Try.func34, Try.ntmps34
      go_wp2
      go_ret
      exact ⟨rfl, rfl⟩
    · rw [decide_eq_false (fun h => h2 h.2)]
      go_enter Try.func34, Try.ntmps34
      go_wp2
      go_ret
      exact ⟨rfl, rfl⟩
  · rw [decide_eq_false (fun h => h1 h.1)]
    go_enter Try.func34, Try.ntmps34
    go_wp2
    go_ret
    exact ⟨rfl, rfl⟩
theorem own_upd {w : World} {g n q : Nat} {S : Nat → Int} (h : Own w g n (fun x => .int .i64 (S x))) (hq : q < n) (v : Int) : Own (w.setCell ⟨g, q, none⟩ (.int .i64 v)) g n (fun x => .int .i64 (upd S q v x)) := h.set q _ hq (fun i _ => by unfold upd; split <;> rfl)
theorem own_updb {w : World} {g n q : Nat} {S : Nat → Bool} (h : Own w g n (fun x => .bool (S x))) (hq : q < n) (v : Bool) : Own (w.setCell ⟨g, q, none⟩ (.bool v)) g n (fun x => .bool (upd S q v x)) := h.set q _ hq (fun i _ => by unfold upd; split <;> rfl)
theorem own_far {w : World} {g n : Nat} {f : Nat → Value} (h : Own w g n f) (o j : Nat) (v : Value) (hne : g ≠ o) : Own (w.setCell ⟨o, j, none⟩ v) g n f := h.but ((Only.refl o w).setCell j v) hne
set_option maxRecDepth 100000 in
set_option maxHeartbeats 8000000 in
theorem mcheck0 (ad : Option Addr) (n c : Nat) (K T F O M : Nat → Int) (w : World) (A : ArgC w ad n K T F O M) (hn : n ≤ 9223372036854775807) (HGD : ∀ i, i < n → gcB (K i) (T i) (F i) (O i) (M i) = true) : Calls Try.prog 36 #[.slice ad n c] w fun e w' => e = .returned (.tuple #[.int .i64 (ckC (flI K T F O M) n), .int .i64 (ckA (flI K T F O M) n)]) ∧ Below w.heap.size w w' := by
  have HX := A.hid
  have HGD := Hid.mk HGD
  have HNO : Hid ((∀ j, j < n → flI K T F O M j = 0) → ckC (flI K T F O M) n = 0 ∧ ckA (flI K T F O M) n = 0) := fun h => ck_no h
  have HAT : Hid (∀ i, (∀ j, j < i → flI K T F O M j = 0) → i < n → flI K T F O M i ≠ 0 → ckC (flI K T F O M) n = flI K T F O M i ∧ ckA (flI K T F O M) n = i) := fun i a b c => ck_at a b c
  generalize ckC (flI K T F O M) n = CC at HNO HAT ⊢
  generalize ckA (flI K T F O M) n = CA at HNO HAT ⊢
  clear A
  obtain ⟨i3, hi3, hz30, hz31, hz32⟩ := info_parts info3
  obtain ⟨i4, hi4, hz40, hz41, hz42⟩ := info_parts info4b
  go_enter Try.func36, Try.ntmps36
  go_wp2_with (at_make; (with_reducible refine wpList_make_full _ rfl _ _ 44 rfl w.heap.size 3 i3 (.int .i64 0) 1 Try.underlying44 hi3 hz30 hz31 .i64 .i64 _ _ 8 rfl rfl rfl rfl ?b2 ?b3 ?b4 ?_))
  case b2 => rw [hz32]; decide
  case b3 => decide
  case b4 => exact Nat.le_refl _
  intro w1 hown1 hgrow1
  have RA : Own w1 w.heap.size 8 (fun _ => .int .i64 0) := own_made hown1
  have hab : w.heap.size < w1.heap.size := RA.hi
  have B1 : Below w.heap.size w w1 := (Below.refl _ _).grown hgrow1 (Nat.le_refl _) (by simp)
  clear hown1 hgrow1
  go_wp2_with (at_make; (with_reducible refine wpList_make_full _ rfl _ _ 88 rfl w1.heap.size 4 i4 (.bool false) 1 Try.underlying88 hi4 hz40 hz41 .i64 .i64 _ _ 8 rfl rfl rfl rfl ?b2 ?b3 ?b4 ?_))
  case b2 => rw [hz42]; decide
  case b3 => decide
  case b4 => exact Nat.le_refl _
  intro w2 hown2 hgrow2
  have RB : Own w2 w1.heap.size 8 (fun _ => .bool false) := own_made hown2
  have B12 : Below w1.heap.size w1 w2 := (Below.refl _ _).grown hgrow2 (Nat.le_refl _) (by simp)
  have B2 : Below w.heap.size w w2 := B1.trans (B12.mono B1.size)
  replace RA := RA.next B12
  clear hown2 hgrow2 hi3 hz30 hz31 hz32 hi4 hz40 hz41 hz42 B12
  obtain ⟨ga, hga⟩ : ∃ z, w.heap.size = z := ⟨_, rfl⟩
  obtain ⟨gb, hgb⟩ : ∃ z, w1.heap.size = z := ⟨_, rfl⟩
  have HGA : Hid (w.heap.size = ga ∧ ga < gb ∧ w.heap.size ≤ gb) := ⟨hga, by omega, by omega⟩
  rw [hga] at RA
  rw [hgb] at RB
  go_wp2
  rw [hga, hgb]
  clear hga hgb hab B1
  go_loopw [12] (fun i wr => ∃ k : Nat, k ≤ n ∧ i = .int .i64 k ∧ Hid (Own wr ga 8 (fun x => .int .i64 (stS K T O k x)) ∧ Own wr gb 8 (fun x => .bool (stU K T F k x)) ∧ ∀ j, j < k → flI K T F O M j = 0) ∧ Below w.heap.size w wr) (fun i _ => n - (intOf i).toNat)
  case atStart => exact ⟨0, Nat.zero_le _, rfl, ⟨RA, RB, fun j hj => absurd hj (Nat.not_lt_zero _)⟩, B2⟩
  case round =>
    clear RA RB B2
    obtain ⟨k, hk, rfl, HR, B⟩ := hrel
    by_cases hkn : k < n
    case neg =>
      obtain rfl : n = k := by omega
      have i1 : ¬ ((n : Nat) : Int) < (n : Int) := by omega
      obtain ⟨rfl, rfl⟩ := HNO.out HR.out.2.2
      clear HAT HNO HX
      go_wp2
      go_ret2
      exact ⟨rfl, B⟩
    obtain ⟨g, off, rfl, hg, d0, d1, d2, d3, d4⟩ := HX.out k hkn
    replace d0 := (B.cell (p := ⟨g, off + k * 5, none⟩) hg).trans d0
    replace d1 := (B.cell (p := ⟨g, off + k * 5 + 1, none⟩) hg).trans d1
    replace d2 := (B.cell (p := ⟨g, off + k * 5 + 2, none⟩) hg).trans d2
    replace d3 := (B.cell (p := ⟨g, off + k * 5 + 3, none⟩) hg).trans d3
    replace d4 := (B.cell (p := ⟨g, off + k * 5 + 4, none⟩) hg).trans d4
    have i1 : (k : Int) < (n : Int) := by omega
    have i0 : (0 : Int) ≤ (k : Int) := by omega
    have hgk := HGD.out k hkn
    have hp := gc_iff.1 hgk
    obtain ⟨q, hTq, hq⟩ := gc_thing hgk
    have q0 : (0 : Int) ≤ (q : Int) := by omega
    have q1 : (q : Int) < 8 := by omega
    have RA := HR.out.1
    have RB := HR.out.2.1
    have HK1 : Hid (stS K T O (k + 1) = doS (K k) (O k) q (stS K T O k) ∧ stU K T F (k + 1) = doW (K k) (F k) q (stU K T F k)) := ⟨by rw [stS, hTq, Int.toNat_natCast], by rw [stU, hTq, Int.toNat_natCast]⟩
    have HF : Hid (flI K T F O M k = if tfB (K k) (stS K T O k q) = true then 2 else if K k = 4 ∧ F k ≠ stS K T O k q then 3 else if K k = 1 ∧ stU K T F k q = false then 4 else 0) := by
      show _ = _
      unfold flI fltV
      rw [hgk, if_neg (by decide), hTq, Int.toNat_natCast]
    have HA : Hid (flI K T F O M k ≠ 0 → CC = flI K T F O M k ∧ CA = k) := HAT.out k HR.out.2.2 hkn
    have HN1 : Hid (flI K T F O M k = 0 → ∀ j, j < k + 1 → flI K T F O M j = 0) := fun h j hj => if e : j = k then e ▸ h else HR.out.2.2 j (by omega)
    rw [hTq] at d1 hp
    have hs0 := RA.cell q hq
    have hu0 := RB.cell q hq
    generalize hS : stS K T O k = S at HK1 HF RA hs0
    generalize hU : stU K T F k = U at HK1 HF RB hu0
    generalize flI K T F O M k = z at HF HA HN1
    generalize K k = xk at HK1 HF d0 hp
    generalize F k = xf at HK1 HF d2 hp
    generalize O k = xo at HK1 HF d3 hp
    generalize M k = xm at HF d4 hp
    clear hS hU hTq hgk
    clear HAT HNO HX HR HGD
    have HS : Hid (∀ v, Own v ga 8 (fun x => .int .i64 (doS xk xo q S x)) → Own v ga 8 (fun x => .int .i64 (stS K T O (k + 1) x))) := fun v h => by rw [HK1.out.1]; exact h
    have HW : Hid (∀ v, Own v gb 8 (fun x => .bool (doW xk xf q U x)) → Own v gb 8 (fun x => .bool (stU K T F (k + 1) x))) := fun v h => by rw [HK1.out.2]; exact h
    clear HK1
    generalize hsq : S q = s at HF hs0
    generalize huq : U q = u at HF hu0
    clear hsq huq
    by_cases k4 : xk = 4
    · subst k4
      have HF2 : Hid (z = if xf = s then 0 else 3) := by
        show _ = _
        have e0 : tfB 4 s = false := decide_eq_false (by omega)
        rw [HF.out, if_neg (by rw [e0]; decide)]
        by_cases e : xf = s
        · rw [if_neg (fun h => h.2 e), if_neg (by omega), if_pos e]
        · rw [if_pos ⟨rfl, e⟩, if_neg e]
      clear HF
      by_cases hf : xf = s
      case neg =>
        obtain rfl : z = 3 := by rw [HF2.out, if_neg hf]
        obtain ⟨rfl, rfl⟩ := HA.out (by decide)
        have hfb : (s != xf) = true := by simpa using Ne.symm hf
        clear HA HN1 HF2
        have PX := C5.new wr 35 (.int .i64 4) (.int .i64 (q : Int)) (.int .i64 xf) (.int .i64 xo) (.int .i64 xm)
        have hs := cell_nx hs0 (alloc_b (o := .cells #[.int .i64 4, .int .i64 (q : Int), .int .i64 xf, .int .i64 xo, .int .i64 xm] 35))
        have hu := cell_nx hu0 (alloc_b (o := .cells #[.int .i64 4, .int .i64 (q : Int), .int .i64 xf, .int .i64 xo, .int .i64 xm] 35))
        have OA := RA.next (alloc_b (o := .cells #[.int .i64 4, .int .i64 (q : Int), .int .i64 xf, .int .i64 xo, .int .i64 xm] 35))
        have OU := RB.next (alloc_b (o := .cells #[.int .i64 4, .int .i64 (q : Int), .int .i64 xf, .int .i64 xo, .int .i64 xm] 35))
        have hu2 := OU.free q
        have ha2 := OA.free q
        have BX : Below w.heap.size w (wr.alloc (.cells #[.int .i64 4, .int .i64 (q : Int), .int .i64 xf, .int .i64 xo, .int .i64 xm] 35)) := B.alloc B.size _
        go_wp2
        replace PX := PX.next (below_drew (Below.refl _ _))
        replace hs := cell_nx hs (below_drew (Below.refl _ _))
        replace hu := cell_nx hu (below_drew (Below.refl _ _))
        replace OA := OA.next (below_drew (Below.refl _ _))
        replace OU := OU.next (below_drew (Below.refl _ _))
        replace BX := below_drew BX
        replace hu2 : ((wr.alloc (.cells #[.int .i64 4, .int .i64 (q : Int), .int .i64 xf, .int .i64 xo, .int .i64 xm] 35)).drew).frozen? ⟨gb, q, none⟩ = false := hu2
        replace ha2 : ((wr.alloc (.cells #[.int .i64 4, .int .i64 (q : Int), .int .i64 xf, .int .i64 xo, .int .i64 xm] 35)).drew).frozen? ⟨ga, q, none⟩ = false := ha2
        generalize hXA : (wr.alloc (.cells #[.int .i64 4, .int .i64 (q : Int), .int .i64 xf, .int .i64 xo, .int .i64 xm] 35)).drew = XA at PX hs hu BX OA OU hu2 ha2
        refine wp_region_held_drew (S := fun v => Below XA.heap.size XA v) (by kernel_rfl) (by rw [hXA]; exact Below.refl _ _) (fun hH => ?_)
        rw [hXA] at hH ⊢
        clear hXA
        have p0 := PX.c0
        have p1 := PX.c1
        have p2 := PX.c2
        have p3 := PX.c3
        refine wpAnyH_take (i := 0) (oi := { dst := some 20, op := Op.move (Operand.tmp 4), type := 44, pos := "l19_commands.go:29", after := #[], guard := none }) (v := .slice (some ⟨ga, 0, none⟩) 8 8) rfl (by kernel_rfl) (by kernel_rfl) (by kernel_rfl) (fun _ _ _ h => h) (Or.inl ⟨by rfl, fun w0 hSw => by (go_simp)⟩) hH ?_
        simp only [Act.put, List.setIfInBounds_toArray, List.set_cons_zero, List.set_cons_succ]
        refine wpAnyH_take (i := 1) (oi := { dst := some 21, op := Op.fieldAddr 35 (Operand.tmp 7) 1, type := 0, pos := "l19_commands.go:29", after := #[], guard := none }) (v := .pointer (some ⟨wr.heap.size, 1, none⟩)) rfl (by kernel_rfl) (by kernel_rfl) (by kernel_rfl) (fun _ _ _ h => h) (Or.inl ⟨by rfl, fun w0 hSw => by (go_simp)⟩) hH ?_
        simp only [Act.put, List.setIfInBounds_toArray, List.set_cons_zero, List.set_cons_succ]
        refine wpAnyH_take (i := 2) (oi := { dst := some 22, op := Op.load 3 (Operand.tmp 21), type := 3, pos := "l19_commands.go:29", after := #[{ on := 1, ground := Ground.data }], guard := none }) (v := .int .i64 (q : Int)) rfl (by kernel_rfl) (by kernel_rfl) (by kernel_rfl) (fun _ _ _ h => h) (Or.inl ⟨by rfl, fun w0 hSw => by ((have e9 := cell_nx PX.c1 hSw); go_simp)⟩) hH ?_
        simp only [Act.put, List.setIfInBounds_toArray, List.set_cons_zero, List.set_cons_succ]
        refine wpAnyH_take (i := 3) (oi := { dst := some 23, op := Op.indexAddr 44 (Operand.tmp 20) (Operand.tmp 22), type := 0, pos := "l19_commands.go:29", after := #[{ on := 0, ground := Ground.data }, { on := 2, ground := Ground.data }], guard := none }) (v := .pointer (some ⟨ga, q, none⟩)) rfl (by kernel_rfl) (by kernel_rfl) (by kernel_rfl) (fun _ _ _ h => h) (Or.inl ⟨by rfl, fun w0 hSw => by (go_simp)⟩) hH ?_
        simp only [Act.put, List.setIfInBounds_toArray, List.set_cons_zero, List.set_cons_succ]
        refine wpAnyH_take (i := 4) (oi := { dst := some 24, op := Op.load 3 (Operand.tmp 23), type := 3, pos := "l19_commands.go:29", after := #[{ on := 3, ground := Ground.data }], guard := none }) (v := .int .i64 s) rfl (by kernel_rfl) (by kernel_rfl) (by kernel_rfl) (fun _ _ _ h => h) (Or.inl ⟨by rfl, fun w0 hSw => by ((have e9 := cell_nx hs hSw); go_simp)⟩) hH ?_
        simp only [Act.put, List.setIfInBounds_toArray, List.set_cons_zero, List.set_cons_succ]
        refine wpAnyH_take (i := 5) (oi := { dst := some 25, op := Op.fieldAddr 35 (Operand.tmp 7) 2, type := 0, pos := "l19_commands.go:29", after := #[], guard := none }) (v := .pointer (some ⟨wr.heap.size, 2, none⟩)) rfl (by kernel_rfl) (by kernel_rfl) (by kernel_rfl) (fun _ _ _ h => h) (Or.inl ⟨by rfl, fun w0 hSw => by (go_simp)⟩) hH ?_
        simp only [Act.put, List.setIfInBounds_toArray, List.set_cons_zero, List.set_cons_succ]
        refine wpAnyH_take (i := 6) (oi := { dst := some 26, op := Op.load 3 (Operand.tmp 25), type := 3, pos := "l19_commands.go:29", after := #[{ on := 5, ground := Ground.data }], guard := none }) (v := .int .i64 xf) rfl (by kernel_rfl) (by kernel_rfl) (by kernel_rfl) (fun _ _ _ h => h) (Or.inl ⟨by rfl, fun w0 hSw => by ((have e9 := cell_nx PX.c2 hSw); go_simp)⟩) hH ?_
        simp only [Act.put, List.setIfInBounds_toArray, List.set_cons_zero, List.set_cons_succ]
        refine wpAnyH_take (i := 7) (oi := { dst := some 27, op := Op.binOp BinOp.neq 3 (Operand.tmp 24) (Operand.tmp 26) 3, type := 4, pos := "l19_commands.go:29", after := #[{ on := 4, ground := Ground.data }, { on := 6, ground := Ground.data }], guard := none }) (v := .bool true) rfl (by kernel_rfl) (by kernel_rfl) (by kernel_rfl) (fun _ _ _ h => h) (Or.inl ⟨by rfl, fun w0 hSw => by (go_simp)⟩) hH ?_
        simp only [Act.put, List.setIfInBounds_toArray, List.set_cons_zero, List.set_cons_succ]
        refine wpAnyH_done (by kernel_rfl) ?_ _
        go_wp2
        go_ret2
        exact ⟨rfl, BX⟩
      subst hf
      obtain rfl : z = 0 := by rw [HF2.out, if_pos rfl]
      have HN2 := Hid.mk (HN1.out rfl)
      clear HA HN1 HF2
      by_cases hf0 : xf = 0
      · subst hf0
        have PX := C5.new wr 35 (.int .i64 4) (.int .i64 (q : Int)) (.int .i64 0) (.int .i64 xo) (.int .i64 xm)
        have hs := cell_nx hs0 (alloc_b (o := .cells #[.int .i64 4, .int .i64 (q : Int), .int .i64 0, .int .i64 xo, .int .i64 xm] 35))
        have hu := cell_nx hu0 (alloc_b (o := .cells #[.int .i64 4, .int .i64 (q : Int), .int .i64 0, .int .i64 xo, .int .i64 xm] 35))
        have OA := RA.next (alloc_b (o := .cells #[.int .i64 4, .int .i64 (q : Int), .int .i64 0, .int .i64 xo, .int .i64 xm] 35))
        have OU := RB.next (alloc_b (o := .cells #[.int .i64 4, .int .i64 (q : Int), .int .i64 0, .int .i64 xo, .int .i64 xm] 35))
        have hu2 := OU.free q
        have ha2 := OA.free q
        have BX : Below w.heap.size w (wr.alloc (.cells #[.int .i64 4, .int .i64 (q : Int), .int .i64 0, .int .i64 xo, .int .i64 xm] 35)) := B.alloc B.size _
        go_wp2
        replace PX := PX.next (below_drew (Below.refl _ _))
        replace hs := cell_nx hs (below_drew (Below.refl _ _))
        replace hu := cell_nx hu (below_drew (Below.refl _ _))
        replace OA := OA.next (below_drew (Below.refl _ _))
        replace OU := OU.next (below_drew (Below.refl _ _))
        replace BX := below_drew BX
        replace hu2 : ((wr.alloc (.cells #[.int .i64 4, .int .i64 (q : Int), .int .i64 0, .int .i64 xo, .int .i64 xm] 35)).drew).frozen? ⟨gb, q, none⟩ = false := hu2
        replace ha2 : ((wr.alloc (.cells #[.int .i64 4, .int .i64 (q : Int), .int .i64 0, .int .i64 xo, .int .i64 xm] 35)).drew).frozen? ⟨ga, q, none⟩ = false := ha2
        generalize hXA : (wr.alloc (.cells #[.int .i64 4, .int .i64 (q : Int), .int .i64 0, .int .i64 xo, .int .i64 xm] 35)).drew = XA at PX hs hu BX OA OU hu2 ha2
        refine wp_region_held_drew (S := fun v => Below XA.heap.size XA v) (by kernel_rfl) (by rw [hXA]; exact Below.refl _ _) (fun hH => ?_)
        rw [hXA] at hH ⊢
        clear hXA
        have p0 := PX.c0
        have p1 := PX.c1
        have p2 := PX.c2
        have p3 := PX.c3
        refine wpAnyH_take (i := 0) (oi := { dst := some 20, op := Op.move (Operand.tmp 4), type := 44, pos := "l19_commands.go:29", after := #[], guard := none }) (v := .slice (some ⟨ga, 0, none⟩) 8 8) rfl (by kernel_rfl) (by kernel_rfl) (by kernel_rfl) (fun _ _ _ h => h) (Or.inl ⟨by rfl, fun w0 hSw => by (go_simp)⟩) hH ?_
        simp only [Act.put, List.setIfInBounds_toArray, List.set_cons_zero, List.set_cons_succ]
        refine wpAnyH_take (i := 1) (oi := { dst := some 21, op := Op.fieldAddr 35 (Operand.tmp 7) 1, type := 0, pos := "l19_commands.go:29", after := #[], guard := none }) (v := .pointer (some ⟨wr.heap.size, 1, none⟩)) rfl (by kernel_rfl) (by kernel_rfl) (by kernel_rfl) (fun _ _ _ h => h) (Or.inl ⟨by rfl, fun w0 hSw => by (go_simp)⟩) hH ?_
        simp only [Act.put, List.setIfInBounds_toArray, List.set_cons_zero, List.set_cons_succ]
        refine wpAnyH_take (i := 2) (oi := { dst := some 22, op := Op.load 3 (Operand.tmp 21), type := 3, pos := "l19_commands.go:29", after := #[{ on := 1, ground := Ground.data }], guard := none }) (v := .int .i64 (q : Int)) rfl (by kernel_rfl) (by kernel_rfl) (by kernel_rfl) (fun _ _ _ h => h) (Or.inl ⟨by rfl, fun w0 hSw => by ((have e9 := cell_nx PX.c1 hSw); go_simp)⟩) hH ?_
        simp only [Act.put, List.setIfInBounds_toArray, List.set_cons_zero, List.set_cons_succ]
        refine wpAnyH_take (i := 3) (oi := { dst := some 23, op := Op.indexAddr 44 (Operand.tmp 20) (Operand.tmp 22), type := 0, pos := "l19_commands.go:29", after := #[{ on := 0, ground := Ground.data }, { on := 2, ground := Ground.data }], guard := none }) (v := .pointer (some ⟨ga, q, none⟩)) rfl (by kernel_rfl) (by kernel_rfl) (by kernel_rfl) (fun _ _ _ h => h) (Or.inl ⟨by rfl, fun w0 hSw => by (go_simp)⟩) hH ?_
        simp only [Act.put, List.setIfInBounds_toArray, List.set_cons_zero, List.set_cons_succ]
        refine wpAnyH_take (i := 4) (oi := { dst := some 24, op := Op.load 3 (Operand.tmp 23), type := 3, pos := "l19_commands.go:29", after := #[{ on := 3, ground := Ground.data }], guard := none }) (v := .int .i64 0) rfl (by kernel_rfl) (by kernel_rfl) (by kernel_rfl) (fun _ _ _ h => h) (Or.inl ⟨by rfl, fun w0 hSw => by ((have e9 := cell_nx hs hSw); go_simp)⟩) hH ?_
        simp only [Act.put, List.setIfInBounds_toArray, List.set_cons_zero, List.set_cons_succ]
        refine wpAnyH_take (i := 5) (oi := { dst := some 25, op := Op.fieldAddr 35 (Operand.tmp 7) 2, type := 0, pos := "l19_commands.go:29", after := #[], guard := none }) (v := .pointer (some ⟨wr.heap.size, 2, none⟩)) rfl (by kernel_rfl) (by kernel_rfl) (by kernel_rfl) (fun _ _ _ h => h) (Or.inl ⟨by rfl, fun w0 hSw => by (go_simp)⟩) hH ?_
        simp only [Act.put, List.setIfInBounds_toArray, List.set_cons_zero, List.set_cons_succ]
        refine wpAnyH_take (i := 6) (oi := { dst := some 26, op := Op.load 3 (Operand.tmp 25), type := 3, pos := "l19_commands.go:29", after := #[{ on := 5, ground := Ground.data }], guard := none }) (v := .int .i64 0) rfl (by kernel_rfl) (by kernel_rfl) (by kernel_rfl) (fun _ _ _ h => h) (Or.inl ⟨by rfl, fun w0 hSw => by ((have e9 := cell_nx PX.c2 hSw); go_simp)⟩) hH ?_
        simp only [Act.put, List.setIfInBounds_toArray, List.set_cons_zero, List.set_cons_succ]
        refine wpAnyH_take (i := 7) (oi := { dst := some 27, op := Op.binOp BinOp.neq 3 (Operand.tmp 24) (Operand.tmp 26) 3, type := 4, pos := "l19_commands.go:29", after := #[{ on := 4, ground := Ground.data }, { on := 6, ground := Ground.data }], guard := none }) (v := .bool false) rfl (by kernel_rfl) (by kernel_rfl) (by kernel_rfl) (fun _ _ _ h => h) (Or.inl ⟨by rfl, fun w0 hSw => by (go_simp)⟩) hH ?_
        simp only [Act.put, List.setIfInBounds_toArray, List.set_cons_zero, List.set_cons_succ]
        refine wpAnyH_done (by kernel_rfl) ?_ _
        have HDS : Hid (Own ((XA.setCell ⟨ga, q, none⟩ (.int .i64 xo)).setCell ⟨gb, q, none⟩ (.bool false)) ga 8 (fun x => .int .i64 (doS 4 xo q S x))) := by
          show Own _ _ _ _
          unfold doS
          rw [if_pos rfl]
          exact own_far (own_upd OA hq xo) gb q _ (by have := HGA.out; omega)
        have HDW : Hid (Own ((XA.setCell ⟨ga, q, none⟩ (.int .i64 xo)).setCell ⟨gb, q, none⟩ (.bool false)) gb 8 (fun x => .bool (doW 4 0 q U x))) := by
          show Own _ _ _ _
          unfold doW
          rw [if_neg (by decide), if_pos ⟨rfl, rfl⟩]
          exact own_updb (own_far OU ga q _ (by have := HGA.out; omega)) hq false
        have hne : gb ≠ ga := by have := HGA.out; omega
        have hne2 : wr.heap.size ≠ ga := by have := RA.hi; omega
        go_wp2
        go_roundw
        case rel => exact ⟨k + 1, by omega, by go_num, ⟨HS.out _ HDS.out, HW.out _ HDW.out, HN2.out⟩, (BX.setCell (by have := HGA.out; simp; omega) _).setCell (by have := HGA.out; simp; omega) _⟩
        case measure => simp [intOf]; omega
      · have hf0b : (xf == 0) = false := by simpa using hf0
        have PX := C5.new wr 35 (.int .i64 4) (.int .i64 (q : Int)) (.int .i64 xf) (.int .i64 xo) (.int .i64 xm)
        have hs := cell_nx hs0 (alloc_b (o := .cells #[.int .i64 4, .int .i64 (q : Int), .int .i64 xf, .int .i64 xo, .int .i64 xm] 35))
        have hu := cell_nx hu0 (alloc_b (o := .cells #[.int .i64 4, .int .i64 (q : Int), .int .i64 xf, .int .i64 xo, .int .i64 xm] 35))
        have OA := RA.next (alloc_b (o := .cells #[.int .i64 4, .int .i64 (q : Int), .int .i64 xf, .int .i64 xo, .int .i64 xm] 35))
        have OU := RB.next (alloc_b (o := .cells #[.int .i64 4, .int .i64 (q : Int), .int .i64 xf, .int .i64 xo, .int .i64 xm] 35))
        have hu2 := OU.free q
        have ha2 := OA.free q
        have BX : Below w.heap.size w (wr.alloc (.cells #[.int .i64 4, .int .i64 (q : Int), .int .i64 xf, .int .i64 xo, .int .i64 xm] 35)) := B.alloc B.size _
        go_wp2
        replace PX := PX.next (below_drew (Below.refl _ _))
        replace hs := cell_nx hs (below_drew (Below.refl _ _))
        replace hu := cell_nx hu (below_drew (Below.refl _ _))
        replace OA := OA.next (below_drew (Below.refl _ _))
        replace OU := OU.next (below_drew (Below.refl _ _))
        replace BX := below_drew BX
        replace hu2 : ((wr.alloc (.cells #[.int .i64 4, .int .i64 (q : Int), .int .i64 xf, .int .i64 xo, .int .i64 xm] 35)).drew).frozen? ⟨gb, q, none⟩ = false := hu2
        replace ha2 : ((wr.alloc (.cells #[.int .i64 4, .int .i64 (q : Int), .int .i64 xf, .int .i64 xo, .int .i64 xm] 35)).drew).frozen? ⟨ga, q, none⟩ = false := ha2
        generalize hXA : (wr.alloc (.cells #[.int .i64 4, .int .i64 (q : Int), .int .i64 xf, .int .i64 xo, .int .i64 xm] 35)).drew = XA at PX hs hu BX OA OU hu2 ha2
        refine wp_region_held_drew (S := fun v => Below XA.heap.size XA v) (by kernel_rfl) (by rw [hXA]; exact Below.refl _ _) (fun hH => ?_)
        rw [hXA] at hH ⊢
        clear hXA
        have p0 := PX.c0
        have p1 := PX.c1
        have p2 := PX.c2
        have p3 := PX.c3
        refine wpAnyH_take (i := 0) (oi := { dst := some 20, op := Op.move (Operand.tmp 4), type := 44, pos := "l19_commands.go:29", after := #[], guard := none }) (v := .slice (some ⟨ga, 0, none⟩) 8 8) rfl (by kernel_rfl) (by kernel_rfl) (by kernel_rfl) (fun _ _ _ h => h) (Or.inl ⟨by rfl, fun w0 hSw => by (go_simp)⟩) hH ?_
        simp only [Act.put, List.setIfInBounds_toArray, List.set_cons_zero, List.set_cons_succ]
        refine wpAnyH_take (i := 1) (oi := { dst := some 21, op := Op.fieldAddr 35 (Operand.tmp 7) 1, type := 0, pos := "l19_commands.go:29", after := #[], guard := none }) (v := .pointer (some ⟨wr.heap.size, 1, none⟩)) rfl (by kernel_rfl) (by kernel_rfl) (by kernel_rfl) (fun _ _ _ h => h) (Or.inl ⟨by rfl, fun w0 hSw => by (go_simp)⟩) hH ?_
        simp only [Act.put, List.setIfInBounds_toArray, List.set_cons_zero, List.set_cons_succ]
        refine wpAnyH_take (i := 2) (oi := { dst := some 22, op := Op.load 3 (Operand.tmp 21), type := 3, pos := "l19_commands.go:29", after := #[{ on := 1, ground := Ground.data }], guard := none }) (v := .int .i64 (q : Int)) rfl (by kernel_rfl) (by kernel_rfl) (by kernel_rfl) (fun _ _ _ h => h) (Or.inl ⟨by rfl, fun w0 hSw => by ((have e9 := cell_nx PX.c1 hSw); go_simp)⟩) hH ?_
        simp only [Act.put, List.setIfInBounds_toArray, List.set_cons_zero, List.set_cons_succ]
        refine wpAnyH_take (i := 3) (oi := { dst := some 23, op := Op.indexAddr 44 (Operand.tmp 20) (Operand.tmp 22), type := 0, pos := "l19_commands.go:29", after := #[{ on := 0, ground := Ground.data }, { on := 2, ground := Ground.data }], guard := none }) (v := .pointer (some ⟨ga, q, none⟩)) rfl (by kernel_rfl) (by kernel_rfl) (by kernel_rfl) (fun _ _ _ h => h) (Or.inl ⟨by rfl, fun w0 hSw => by (go_simp)⟩) hH ?_
        simp only [Act.put, List.setIfInBounds_toArray, List.set_cons_zero, List.set_cons_succ]
        refine wpAnyH_take (i := 4) (oi := { dst := some 24, op := Op.load 3 (Operand.tmp 23), type := 3, pos := "l19_commands.go:29", after := #[{ on := 3, ground := Ground.data }], guard := none }) (v := .int .i64 xf) rfl (by kernel_rfl) (by kernel_rfl) (by kernel_rfl) (fun _ _ _ h => h) (Or.inl ⟨by rfl, fun w0 hSw => by ((have e9 := cell_nx hs hSw); go_simp)⟩) hH ?_
        simp only [Act.put, List.setIfInBounds_toArray, List.set_cons_zero, List.set_cons_succ]
        refine wpAnyH_take (i := 5) (oi := { dst := some 25, op := Op.fieldAddr 35 (Operand.tmp 7) 2, type := 0, pos := "l19_commands.go:29", after := #[], guard := none }) (v := .pointer (some ⟨wr.heap.size, 2, none⟩)) rfl (by kernel_rfl) (by kernel_rfl) (by kernel_rfl) (fun _ _ _ h => h) (Or.inl ⟨by rfl, fun w0 hSw => by (go_simp)⟩) hH ?_
        simp only [Act.put, List.setIfInBounds_toArray, List.set_cons_zero, List.set_cons_succ]
        refine wpAnyH_take (i := 6) (oi := { dst := some 26, op := Op.load 3 (Operand.tmp 25), type := 3, pos := "l19_commands.go:29", after := #[{ on := 5, ground := Ground.data }], guard := none }) (v := .int .i64 xf) rfl (by kernel_rfl) (by kernel_rfl) (by kernel_rfl) (fun _ _ _ h => h) (Or.inl ⟨by rfl, fun w0 hSw => by ((have e9 := cell_nx PX.c2 hSw); go_simp)⟩) hH ?_
        simp only [Act.put, List.setIfInBounds_toArray, List.set_cons_zero, List.set_cons_succ]
        refine wpAnyH_take (i := 7) (oi := { dst := some 27, op := Op.binOp BinOp.neq 3 (Operand.tmp 24) (Operand.tmp 26) 3, type := 4, pos := "l19_commands.go:29", after := #[{ on := 4, ground := Ground.data }, { on := 6, ground := Ground.data }], guard := none }) (v := .bool false) rfl (by kernel_rfl) (by kernel_rfl) (by kernel_rfl) (fun _ _ _ h => h) (Or.inl ⟨by rfl, fun w0 hSw => by (go_simp)⟩) hH ?_
        simp only [Act.put, List.setIfInBounds_toArray, List.set_cons_zero, List.set_cons_succ]
        refine wpAnyH_done (by kernel_rfl) ?_ _
        have HDS : Hid (Own (XA.setCell ⟨ga, q, none⟩ (.int .i64 xo)) ga 8 (fun x => .int .i64 (doS 4 xo q S x))) := by
          show Own _ _ _ _
          unfold doS
          rw [if_pos rfl]
          exact own_upd OA hq xo
        have HDW : Hid (Own (XA.setCell ⟨ga, q, none⟩ (.int .i64 xo)) gb 8 (fun x => .bool (doW 4 xf q U x))) := by
          show Own _ _ _ _
          unfold doW
          rw [if_neg (by decide), if_neg (by omega)]
          exact own_far OU ga q _ (by have := HGA.out; omega)
        have hne2 : wr.heap.size ≠ ga := by have := RA.hi; omega
        go_wp2
        go_roundw
        case rel => exact ⟨k + 1, by omega, by go_num, ⟨HS.out _ HDS.out, HW.out _ HDW.out, HN2.out⟩, (BX.setCell (by have := HGA.out; simp; omega) _)⟩
        case measure => simp [intOf]; omega
    have k4b : (xk == 4) = false := by simpa using k4
    by_cases k13 : 1 ≤ xk ∧ xk ≤ 3
    · have HU : Hid (∀ v, Calls Try.prog 34 #[.int .i64 xk] v fun e w' => e = .returned (.bool true) ∧ w' = v) := fun v => by have h := muses xk v; rwa [decide_eq_true k13] at h
      have HF2 : Hid (z = if xk = s then (if xk = 1 ∧ u = false then 4 else 0) else 2) := by
        show _ = _
        rw [HF.out]
        by_cases e : xk = s
        · have e0 : tfB xk s = false := decide_eq_false (by omega)
          rw [if_neg (by rw [e0]; decide), if_neg (fun h => k4 h.1), if_pos e]
        · have e0 : tfB xk s = true := decide_eq_true ⟨k13, e⟩
          rw [if_pos e0, if_neg e]
      clear HF
      have HDS : Hid (∀ v, Own v ga 8 (fun x => .int .i64 (S x)) → Own v ga 8 (fun x => .int .i64 (stS K T O (k + 1) x))) := fun v h => HS.out v (by unfold doS; rw [if_neg k4]; exact h)
      clear HS
      by_cases hks : xk = s
      case neg =>
        obtain rfl : z = 2 := by rw [HF2.out, if_neg hks]
        obtain ⟨rfl, rfl⟩ := HA.out (by decide)
        have hfb : (s != xk) = true := by simpa using Ne.symm hks
        clear HA HN1 HF2
        have PX := C5.new wr 35 (.int .i64 xk) (.int .i64 (q : Int)) (.int .i64 xf) (.int .i64 xo) (.int .i64 xm)
        have hs := cell_nx hs0 (alloc_b (o := .cells #[.int .i64 xk, .int .i64 (q : Int), .int .i64 xf, .int .i64 xo, .int .i64 xm] 35))
        have hu := cell_nx hu0 (alloc_b (o := .cells #[.int .i64 xk, .int .i64 (q : Int), .int .i64 xf, .int .i64 xo, .int .i64 xm] 35))
        have OA := RA.next (alloc_b (o := .cells #[.int .i64 xk, .int .i64 (q : Int), .int .i64 xf, .int .i64 xo, .int .i64 xm] 35))
        have OU := RB.next (alloc_b (o := .cells #[.int .i64 xk, .int .i64 (q : Int), .int .i64 xf, .int .i64 xo, .int .i64 xm] 35))
        have hu2 := OU.free q
        have ha2 := OA.free q
        have BX : Below w.heap.size w (wr.alloc (.cells #[.int .i64 xk, .int .i64 (q : Int), .int .i64 xf, .int .i64 xo, .int .i64 xm] 35)) := B.alloc B.size _
        go_wp2_with (first | (go_at_call 34; refine (HU.out _).mono ?_; rintro e w9 ⟨rfl, hw⟩; subst w9))
        replace PX := PX.next (below_drew (Below.refl _ _))
        replace hs := cell_nx hs (below_drew (Below.refl _ _))
        replace hu := cell_nx hu (below_drew (Below.refl _ _))
        replace OA := OA.next (below_drew (Below.refl _ _))
        replace OU := OU.next (below_drew (Below.refl _ _))
        replace BX := below_drew BX
        replace hu2 : ((wr.alloc (.cells #[.int .i64 xk, .int .i64 (q : Int), .int .i64 xf, .int .i64 xo, .int .i64 xm] 35)).drew).frozen? ⟨gb, q, none⟩ = false := hu2
        replace ha2 : ((wr.alloc (.cells #[.int .i64 xk, .int .i64 (q : Int), .int .i64 xf, .int .i64 xo, .int .i64 xm] 35)).drew).frozen? ⟨ga, q, none⟩ = false := ha2
        generalize hXA : (wr.alloc (.cells #[.int .i64 xk, .int .i64 (q : Int), .int .i64 xf, .int .i64 xo, .int .i64 xm] 35)).drew = XA at PX hs hu BX OA OU hu2 ha2
        refine wp_region_held_drew (S := fun v => Below XA.heap.size XA v) (by kernel_rfl) (by rw [hXA]; exact Below.refl _ _) (fun hH => ?_)
        rw [hXA] at hH ⊢
        clear hXA
        have p0 := PX.c0
        have p1 := PX.c1
        have p2 := PX.c2
        have p3 := PX.c3
        refine wpAnyH_take (i := 0) (oi := { dst := some 46, op := Op.move (Operand.tmp 4), type := 44, pos := "l19_commands.go:42", after := #[], guard := none }) (v := .slice (some ⟨ga, 0, none⟩) 8 8) rfl (by kernel_rfl) (by kernel_rfl) (by kernel_rfl) (fun _ _ _ h => h) (Or.inl ⟨by rfl, fun w0 hSw => by (go_simp)⟩) hH ?_
        simp only [Act.put, List.setIfInBounds_toArray, List.set_cons_zero, List.set_cons_succ]
        refine wpAnyH_take (i := 1) (oi := { dst := some 47, op := Op.fieldAddr 35 (Operand.tmp 7) 1, type := 0, pos := "l19_commands.go:42", after := #[], guard := none }) (v := .pointer (some ⟨wr.heap.size, 1, none⟩)) rfl (by kernel_rfl) (by kernel_rfl) (by kernel_rfl) (fun _ _ _ h => h) (Or.inl ⟨by rfl, fun w0 hSw => by (go_simp)⟩) hH ?_
        simp only [Act.put, List.setIfInBounds_toArray, List.set_cons_zero, List.set_cons_succ]
        refine wpAnyH_take (i := 2) (oi := { dst := some 48, op := Op.load 3 (Operand.tmp 47), type := 3, pos := "l19_commands.go:42", after := #[{ on := 1, ground := Ground.data }], guard := none }) (v := .int .i64 (q : Int)) rfl (by kernel_rfl) (by kernel_rfl) (by kernel_rfl) (fun _ _ _ h => h) (Or.inl ⟨by rfl, fun w0 hSw => by ((have e9 := cell_nx PX.c1 hSw); go_simp)⟩) hH ?_
        simp only [Act.put, List.setIfInBounds_toArray, List.set_cons_zero, List.set_cons_succ]
        refine wpAnyH_take (i := 3) (oi := { dst := some 49, op := Op.indexAddr 44 (Operand.tmp 46) (Operand.tmp 48), type := 0, pos := "l19_commands.go:42", after := #[{ on := 0, ground := Ground.data }, { on := 2, ground := Ground.data }], guard := none }) (v := .pointer (some ⟨ga, q, none⟩)) rfl (by kernel_rfl) (by kernel_rfl) (by kernel_rfl) (fun _ _ _ h => h) (Or.inl ⟨by rfl, fun w0 hSw => by (go_simp)⟩) hH ?_
        simp only [Act.put, List.setIfInBounds_toArray, List.set_cons_zero, List.set_cons_succ]
        refine wpAnyH_take (i := 4) (oi := { dst := some 50, op := Op.load 3 (Operand.tmp 49), type := 3, pos := "l19_commands.go:42", after := #[{ on := 3, ground := Ground.data }], guard := none }) (v := .int .i64 s) rfl (by kernel_rfl) (by kernel_rfl) (by kernel_rfl) (fun _ _ _ h => h) (Or.inl ⟨by rfl, fun w0 hSw => by ((have e9 := cell_nx hs hSw); go_simp)⟩) hH ?_
        simp only [Act.put, List.setIfInBounds_toArray, List.set_cons_zero, List.set_cons_succ]
        refine wpAnyH_take (i := 5) (oi := { dst := some 51, op := Op.fieldAddr 35 (Operand.tmp 7) 0, type := 0, pos := "l19_commands.go:42", after := #[], guard := none }) (v := .pointer (some ⟨wr.heap.size, 0, none⟩)) rfl (by kernel_rfl) (by kernel_rfl) (by kernel_rfl) (fun _ _ _ h => h) (Or.inl ⟨by rfl, fun w0 hSw => by (go_simp)⟩) hH ?_
        simp only [Act.put, List.setIfInBounds_toArray, List.set_cons_zero, List.set_cons_succ]
        refine wpAnyH_take (i := 6) (oi := { dst := some 52, op := Op.load 3 (Operand.tmp 51), type := 3, pos := "l19_commands.go:42", after := #[{ on := 5, ground := Ground.data }], guard := none }) (v := .int .i64 xk) rfl (by kernel_rfl) (by kernel_rfl) (by kernel_rfl) (fun _ _ _ h => h) (Or.inl ⟨by rfl, fun w0 hSw => by ((have e9 := cell_nx PX.c0 hSw); go_simp)⟩) hH ?_
        simp only [Act.put, List.setIfInBounds_toArray, List.set_cons_zero, List.set_cons_succ]
        refine wpAnyH_take (i := 7) (oi := { dst := some 53, op := Op.binOp BinOp.neq 3 (Operand.tmp 50) (Operand.tmp 52) 3, type := 4, pos := "l19_commands.go:42", after := #[{ on := 4, ground := Ground.data }, { on := 6, ground := Ground.data }], guard := none }) (v := .bool true) rfl (by kernel_rfl) (by kernel_rfl) (by kernel_rfl) (fun _ _ _ h => h) (Or.inl ⟨by rfl, fun w0 hSw => by (go_simp)⟩) hH ?_
        simp only [Act.put, List.setIfInBounds_toArray, List.set_cons_zero, List.set_cons_succ]
        refine wpAnyH_done (by kernel_rfl) ?_ _
        go_wp2
        go_ret2
        exact ⟨rfl, BX⟩
      subst hks
      by_cases k1 : xk = 1
      · subst k1
        cases u
        · obtain rfl : z = 4 := by rw [HF2.out]; rfl
          obtain ⟨rfl, rfl⟩ := HA.out (by decide)
          clear HA HN1 HF2
          have PX := C5.new wr 35 (.int .i64 1) (.int .i64 (q : Int)) (.int .i64 xf) (.int .i64 xo) (.int .i64 xm)
          have hs := cell_nx hs0 (alloc_b (o := .cells #[.int .i64 1, .int .i64 (q : Int), .int .i64 xf, .int .i64 xo, .int .i64 xm] 35))
          have hu := cell_nx hu0 (alloc_b (o := .cells #[.int .i64 1, .int .i64 (q : Int), .int .i64 xf, .int .i64 xo, .int .i64 xm] 35))
          have OA := RA.next (alloc_b (o := .cells #[.int .i64 1, .int .i64 (q : Int), .int .i64 xf, .int .i64 xo, .int .i64 xm] 35))
          have OU := RB.next (alloc_b (o := .cells #[.int .i64 1, .int .i64 (q : Int), .int .i64 xf, .int .i64 xo, .int .i64 xm] 35))
          have hu2 := OU.free q
          have ha2 := OA.free q
          have BX : Below w.heap.size w (wr.alloc (.cells #[.int .i64 1, .int .i64 (q : Int), .int .i64 xf, .int .i64 xo, .int .i64 xm] 35)) := B.alloc B.size _
          go_wp2_with (first | (go_at_call 34; refine (HU.out _).mono ?_; rintro e w9 ⟨rfl, hw⟩; subst w9))
          replace PX := PX.next (below_drew (Below.refl _ _))
          replace hs := cell_nx hs (below_drew (Below.refl _ _))
          replace hu := cell_nx hu (below_drew (Below.refl _ _))
          replace OA := OA.next (below_drew (Below.refl _ _))
          replace OU := OU.next (below_drew (Below.refl _ _))
          replace BX := below_drew BX
          replace hu2 : ((wr.alloc (.cells #[.int .i64 1, .int .i64 (q : Int), .int .i64 xf, .int .i64 xo, .int .i64 xm] 35)).drew).frozen? ⟨gb, q, none⟩ = false := hu2
          replace ha2 : ((wr.alloc (.cells #[.int .i64 1, .int .i64 (q : Int), .int .i64 xf, .int .i64 xo, .int .i64 xm] 35)).drew).frozen? ⟨ga, q, none⟩ = false := ha2
          generalize hXA : (wr.alloc (.cells #[.int .i64 1, .int .i64 (q : Int), .int .i64 xf, .int .i64 xo, .int .i64 xm] 35)).drew = XA at PX hs hu BX OA OU hu2 ha2
          refine wp_region_held_drew (S := fun v => Below XA.heap.size XA v) (by kernel_rfl) (by rw [hXA]; exact Below.refl _ _) (fun hH => ?_)
          rw [hXA] at hH ⊢
          clear hXA
          have p0 := PX.c0
          have p1 := PX.c1
          have p2 := PX.c2
          have p3 := PX.c3
          refine wpAnyH_take (i := 0) (oi := { dst := some 46, op := Op.move (Operand.tmp 4), type := 44, pos := "l19_commands.go:42", after := #[], guard := none }) (v := .slice (some ⟨ga, 0, none⟩) 8 8) rfl (by kernel_rfl) (by kernel_rfl) (by kernel_rfl) (fun _ _ _ h => h) (Or.inl ⟨by rfl, fun w0 hSw => by (go_simp)⟩) hH ?_
          simp only [Act.put, List.setIfInBounds_toArray, List.set_cons_zero, List.set_cons_succ]
          refine wpAnyH_take (i := 1) (oi := { dst := some 47, op := Op.fieldAddr 35 (Operand.tmp 7) 1, type := 0, pos := "l19_commands.go:42", after := #[], guard := none }) (v := .pointer (some ⟨wr.heap.size, 1, none⟩)) rfl (by kernel_rfl) (by kernel_rfl) (by kernel_rfl) (fun _ _ _ h => h) (Or.inl ⟨by rfl, fun w0 hSw => by (go_simp)⟩) hH ?_
          simp only [Act.put, List.setIfInBounds_toArray, List.set_cons_zero, List.set_cons_succ]
          refine wpAnyH_take (i := 2) (oi := { dst := some 48, op := Op.load 3 (Operand.tmp 47), type := 3, pos := "l19_commands.go:42", after := #[{ on := 1, ground := Ground.data }], guard := none }) (v := .int .i64 (q : Int)) rfl (by kernel_rfl) (by kernel_rfl) (by kernel_rfl) (fun _ _ _ h => h) (Or.inl ⟨by rfl, fun w0 hSw => by ((have e9 := cell_nx PX.c1 hSw); go_simp)⟩) hH ?_
          simp only [Act.put, List.setIfInBounds_toArray, List.set_cons_zero, List.set_cons_succ]
          refine wpAnyH_take (i := 3) (oi := { dst := some 49, op := Op.indexAddr 44 (Operand.tmp 46) (Operand.tmp 48), type := 0, pos := "l19_commands.go:42", after := #[{ on := 0, ground := Ground.data }, { on := 2, ground := Ground.data }], guard := none }) (v := .pointer (some ⟨ga, q, none⟩)) rfl (by kernel_rfl) (by kernel_rfl) (by kernel_rfl) (fun _ _ _ h => h) (Or.inl ⟨by rfl, fun w0 hSw => by (go_simp)⟩) hH ?_
          simp only [Act.put, List.setIfInBounds_toArray, List.set_cons_zero, List.set_cons_succ]
          refine wpAnyH_take (i := 4) (oi := { dst := some 50, op := Op.load 3 (Operand.tmp 49), type := 3, pos := "l19_commands.go:42", after := #[{ on := 3, ground := Ground.data }], guard := none }) (v := .int .i64 1) rfl (by kernel_rfl) (by kernel_rfl) (by kernel_rfl) (fun _ _ _ h => h) (Or.inl ⟨by rfl, fun w0 hSw => by ((have e9 := cell_nx hs hSw); go_simp)⟩) hH ?_
          simp only [Act.put, List.setIfInBounds_toArray, List.set_cons_zero, List.set_cons_succ]
          refine wpAnyH_take (i := 5) (oi := { dst := some 51, op := Op.fieldAddr 35 (Operand.tmp 7) 0, type := 0, pos := "l19_commands.go:42", after := #[], guard := none }) (v := .pointer (some ⟨wr.heap.size, 0, none⟩)) rfl (by kernel_rfl) (by kernel_rfl) (by kernel_rfl) (fun _ _ _ h => h) (Or.inl ⟨by rfl, fun w0 hSw => by (go_simp)⟩) hH ?_
          simp only [Act.put, List.setIfInBounds_toArray, List.set_cons_zero, List.set_cons_succ]
          refine wpAnyH_take (i := 6) (oi := { dst := some 52, op := Op.load 3 (Operand.tmp 51), type := 3, pos := "l19_commands.go:42", after := #[{ on := 5, ground := Ground.data }], guard := none }) (v := .int .i64 1) rfl (by kernel_rfl) (by kernel_rfl) (by kernel_rfl) (fun _ _ _ h => h) (Or.inl ⟨by rfl, fun w0 hSw => by ((have e9 := cell_nx PX.c0 hSw); go_simp)⟩) hH ?_
          simp only [Act.put, List.setIfInBounds_toArray, List.set_cons_zero, List.set_cons_succ]
          refine wpAnyH_take (i := 7) (oi := { dst := some 53, op := Op.binOp BinOp.neq 3 (Operand.tmp 50) (Operand.tmp 52) 3, type := 4, pos := "l19_commands.go:42", after := #[{ on := 4, ground := Ground.data }, { on := 6, ground := Ground.data }], guard := none }) (v := .bool false) rfl (by kernel_rfl) (by kernel_rfl) (by kernel_rfl) (fun _ _ _ h => h) (Or.inl ⟨by rfl, fun w0 hSw => by (go_simp)⟩) hH ?_
          simp only [Act.put, List.setIfInBounds_toArray, List.set_cons_zero, List.set_cons_succ]
          refine wpAnyH_done (by kernel_rfl) ?_ _
          go_wp2
          go_ret2
          exact ⟨rfl, BX⟩
        · obtain rfl : z = 0 := by rw [HF2.out]; rfl
          have HN2 := Hid.mk (HN1.out rfl)
          clear HA HN1 HF2
          have PX := C5.new wr 35 (.int .i64 1) (.int .i64 (q : Int)) (.int .i64 xf) (.int .i64 xo) (.int .i64 xm)
          have hs := cell_nx hs0 (alloc_b (o := .cells #[.int .i64 1, .int .i64 (q : Int), .int .i64 xf, .int .i64 xo, .int .i64 xm] 35))
          have hu := cell_nx hu0 (alloc_b (o := .cells #[.int .i64 1, .int .i64 (q : Int), .int .i64 xf, .int .i64 xo, .int .i64 xm] 35))
          have OA := RA.next (alloc_b (o := .cells #[.int .i64 1, .int .i64 (q : Int), .int .i64 xf, .int .i64 xo, .int .i64 xm] 35))
          have OU := RB.next (alloc_b (o := .cells #[.int .i64 1, .int .i64 (q : Int), .int .i64 xf, .int .i64 xo, .int .i64 xm] 35))
          have hu2 := OU.free q
          have ha2 := OA.free q
          have BX : Below w.heap.size w (wr.alloc (.cells #[.int .i64 1, .int .i64 (q : Int), .int .i64 xf, .int .i64 xo, .int .i64 xm] 35)) := B.alloc B.size _
          go_wp2_with (first | (go_at_call 34; refine (HU.out _).mono ?_; rintro e w9 ⟨rfl, hw⟩; subst w9))
          replace PX := PX.next (below_drew (Below.refl _ _))
          replace hs := cell_nx hs (below_drew (Below.refl _ _))
          replace hu := cell_nx hu (below_drew (Below.refl _ _))
          replace OA := OA.next (below_drew (Below.refl _ _))
          replace OU := OU.next (below_drew (Below.refl _ _))
          replace BX := below_drew BX
          replace hu2 : ((wr.alloc (.cells #[.int .i64 1, .int .i64 (q : Int), .int .i64 xf, .int .i64 xo, .int .i64 xm] 35)).drew).frozen? ⟨gb, q, none⟩ = false := hu2
          replace ha2 : ((wr.alloc (.cells #[.int .i64 1, .int .i64 (q : Int), .int .i64 xf, .int .i64 xo, .int .i64 xm] 35)).drew).frozen? ⟨ga, q, none⟩ = false := ha2
          generalize hXA : (wr.alloc (.cells #[.int .i64 1, .int .i64 (q : Int), .int .i64 xf, .int .i64 xo, .int .i64 xm] 35)).drew = XA at PX hs hu BX OA OU hu2 ha2
          refine wp_region_held_drew (S := fun v => Below XA.heap.size XA v) (by kernel_rfl) (by rw [hXA]; exact Below.refl _ _) (fun hH => ?_)
          rw [hXA] at hH ⊢
          clear hXA
          have p0 := PX.c0
          have p1 := PX.c1
          have p2 := PX.c2
          have p3 := PX.c3
          refine wpAnyH_take (i := 0) (oi := { dst := some 46, op := Op.move (Operand.tmp 4), type := 44, pos := "l19_commands.go:42", after := #[], guard := none }) (v := .slice (some ⟨ga, 0, none⟩) 8 8) rfl (by kernel_rfl) (by kernel_rfl) (by kernel_rfl) (fun _ _ _ h => h) (Or.inl ⟨by rfl, fun w0 hSw => by (go_simp)⟩) hH ?_
          simp only [Act.put, List.setIfInBounds_toArray, List.set_cons_zero, List.set_cons_succ]
          refine wpAnyH_take (i := 1) (oi := { dst := some 47, op := Op.fieldAddr 35 (Operand.tmp 7) 1, type := 0, pos := "l19_commands.go:42", after := #[], guard := none }) (v := .pointer (some ⟨wr.heap.size, 1, none⟩)) rfl (by kernel_rfl) (by kernel_rfl) (by kernel_rfl) (fun _ _ _ h => h) (Or.inl ⟨by rfl, fun w0 hSw => by (go_simp)⟩) hH ?_
          simp only [Act.put, List.setIfInBounds_toArray, List.set_cons_zero, List.set_cons_succ]
          refine wpAnyH_take (i := 2) (oi := { dst := some 48, op := Op.load 3 (Operand.tmp 47), type := 3, pos := "l19_commands.go:42", after := #[{ on := 1, ground := Ground.data }], guard := none }) (v := .int .i64 (q : Int)) rfl (by kernel_rfl) (by kernel_rfl) (by kernel_rfl) (fun _ _ _ h => h) (Or.inl ⟨by rfl, fun w0 hSw => by ((have e9 := cell_nx PX.c1 hSw); go_simp)⟩) hH ?_
          simp only [Act.put, List.setIfInBounds_toArray, List.set_cons_zero, List.set_cons_succ]
          refine wpAnyH_take (i := 3) (oi := { dst := some 49, op := Op.indexAddr 44 (Operand.tmp 46) (Operand.tmp 48), type := 0, pos := "l19_commands.go:42", after := #[{ on := 0, ground := Ground.data }, { on := 2, ground := Ground.data }], guard := none }) (v := .pointer (some ⟨ga, q, none⟩)) rfl (by kernel_rfl) (by kernel_rfl) (by kernel_rfl) (fun _ _ _ h => h) (Or.inl ⟨by rfl, fun w0 hSw => by (go_simp)⟩) hH ?_
          simp only [Act.put, List.setIfInBounds_toArray, List.set_cons_zero, List.set_cons_succ]
          refine wpAnyH_take (i := 4) (oi := { dst := some 50, op := Op.load 3 (Operand.tmp 49), type := 3, pos := "l19_commands.go:42", after := #[{ on := 3, ground := Ground.data }], guard := none }) (v := .int .i64 1) rfl (by kernel_rfl) (by kernel_rfl) (by kernel_rfl) (fun _ _ _ h => h) (Or.inl ⟨by rfl, fun w0 hSw => by ((have e9 := cell_nx hs hSw); go_simp)⟩) hH ?_
          simp only [Act.put, List.setIfInBounds_toArray, List.set_cons_zero, List.set_cons_succ]
          refine wpAnyH_take (i := 5) (oi := { dst := some 51, op := Op.fieldAddr 35 (Operand.tmp 7) 0, type := 0, pos := "l19_commands.go:42", after := #[], guard := none }) (v := .pointer (some ⟨wr.heap.size, 0, none⟩)) rfl (by kernel_rfl) (by kernel_rfl) (by kernel_rfl) (fun _ _ _ h => h) (Or.inl ⟨by rfl, fun w0 hSw => by (go_simp)⟩) hH ?_
          simp only [Act.put, List.setIfInBounds_toArray, List.set_cons_zero, List.set_cons_succ]
          refine wpAnyH_take (i := 6) (oi := { dst := some 52, op := Op.load 3 (Operand.tmp 51), type := 3, pos := "l19_commands.go:42", after := #[{ on := 5, ground := Ground.data }], guard := none }) (v := .int .i64 1) rfl (by kernel_rfl) (by kernel_rfl) (by kernel_rfl) (fun _ _ _ h => h) (Or.inl ⟨by rfl, fun w0 hSw => by ((have e9 := cell_nx PX.c0 hSw); go_simp)⟩) hH ?_
          simp only [Act.put, List.setIfInBounds_toArray, List.set_cons_zero, List.set_cons_succ]
          refine wpAnyH_take (i := 7) (oi := { dst := some 53, op := Op.binOp BinOp.neq 3 (Operand.tmp 50) (Operand.tmp 52) 3, type := 4, pos := "l19_commands.go:42", after := #[{ on := 4, ground := Ground.data }, { on := 6, ground := Ground.data }], guard := none }) (v := .bool false) rfl (by kernel_rfl) (by kernel_rfl) (by kernel_rfl) (fun _ _ _ h => h) (Or.inl ⟨by rfl, fun w0 hSw => by (go_simp)⟩) hH ?_
          simp only [Act.put, List.setIfInBounds_toArray, List.set_cons_zero, List.set_cons_succ]
          refine wpAnyH_done (by kernel_rfl) ?_ _
          have HDW : Hid (Own XA gb 8 (fun x => .bool (doW 1 xf q U x))) := by
            show Own _ _ _ _
            unfold doW
            rw [if_neg (by decide), if_neg (by omega)]
            exact OU
          go_wp2
          go_roundw
          case rel => exact ⟨k + 1, by omega, by go_num, ⟨HDS.out _ OA, HW.out _ HDW.out, HN2.out⟩, BX⟩
          case measure => simp [intOf]; omega
      · have k1b : (xk == 1) = false := by simpa using k1
        have k1c : (xk != 1) = true := by simpa using k1
        obtain rfl : z = 0 := by rw [HF2.out, if_pos rfl, if_neg (fun h => k1 h.1)]
        have HN2 := Hid.mk (HN1.out rfl)
        clear HA HN1 HF2
        have PX := C5.new wr 35 (.int .i64 xk) (.int .i64 (q : Int)) (.int .i64 xf) (.int .i64 xo) (.int .i64 xm)
        have hs := cell_nx hs0 (alloc_b (o := .cells #[.int .i64 xk, .int .i64 (q : Int), .int .i64 xf, .int .i64 xo, .int .i64 xm] 35))
        have hu := cell_nx hu0 (alloc_b (o := .cells #[.int .i64 xk, .int .i64 (q : Int), .int .i64 xf, .int .i64 xo, .int .i64 xm] 35))
        have OA := RA.next (alloc_b (o := .cells #[.int .i64 xk, .int .i64 (q : Int), .int .i64 xf, .int .i64 xo, .int .i64 xm] 35))
        have OU := RB.next (alloc_b (o := .cells #[.int .i64 xk, .int .i64 (q : Int), .int .i64 xf, .int .i64 xo, .int .i64 xm] 35))
        have hu2 := OU.free q
        have ha2 := OA.free q
        have BX : Below w.heap.size w (wr.alloc (.cells #[.int .i64 xk, .int .i64 (q : Int), .int .i64 xf, .int .i64 xo, .int .i64 xm] 35)) := B.alloc B.size _
        go_wp2_with (first | (go_at_call 34; refine (HU.out _).mono ?_; rintro e w9 ⟨rfl, hw⟩; subst w9))
        replace PX := PX.next (below_drew (Below.refl _ _))
        replace hs := cell_nx hs (below_drew (Below.refl _ _))
        replace hu := cell_nx hu (below_drew (Below.refl _ _))
        replace OA := OA.next (below_drew (Below.refl _ _))
        replace OU := OU.next (below_drew (Below.refl _ _))
        replace BX := below_drew BX
        replace hu2 : ((wr.alloc (.cells #[.int .i64 xk, .int .i64 (q : Int), .int .i64 xf, .int .i64 xo, .int .i64 xm] 35)).drew).frozen? ⟨gb, q, none⟩ = false := hu2
        replace ha2 : ((wr.alloc (.cells #[.int .i64 xk, .int .i64 (q : Int), .int .i64 xf, .int .i64 xo, .int .i64 xm] 35)).drew).frozen? ⟨ga, q, none⟩ = false := ha2
        generalize hXA : (wr.alloc (.cells #[.int .i64 xk, .int .i64 (q : Int), .int .i64 xf, .int .i64 xo, .int .i64 xm] 35)).drew = XA at PX hs hu BX OA OU hu2 ha2
        refine wp_region_held_drew (S := fun v => Below XA.heap.size XA v) (by kernel_rfl) (by rw [hXA]; exact Below.refl _ _) (fun hH => ?_)
        rw [hXA] at hH ⊢
        clear hXA
        have p0 := PX.c0
        have p1 := PX.c1
        have p2 := PX.c2
        have p3 := PX.c3
        refine wpAnyH_take (i := 0) (oi := { dst := some 46, op := Op.move (Operand.tmp 4), type := 44, pos := "l19_commands.go:42", after := #[], guard := none }) (v := .slice (some ⟨ga, 0, none⟩) 8 8) rfl (by kernel_rfl) (by kernel_rfl) (by kernel_rfl) (fun _ _ _ h => h) (Or.inl ⟨by rfl, fun w0 hSw => by (go_simp)⟩) hH ?_
        simp only [Act.put, List.setIfInBounds_toArray, List.set_cons_zero, List.set_cons_succ]
        refine wpAnyH_take (i := 1) (oi := { dst := some 47, op := Op.fieldAddr 35 (Operand.tmp 7) 1, type := 0, pos := "l19_commands.go:42", after := #[], guard := none }) (v := .pointer (some ⟨wr.heap.size, 1, none⟩)) rfl (by kernel_rfl) (by kernel_rfl) (by kernel_rfl) (fun _ _ _ h => h) (Or.inl ⟨by rfl, fun w0 hSw => by (go_simp)⟩) hH ?_
        simp only [Act.put, List.setIfInBounds_toArray, List.set_cons_zero, List.set_cons_succ]
        refine wpAnyH_take (i := 2) (oi := { dst := some 48, op := Op.load 3 (Operand.tmp 47), type := 3, pos := "l19_commands.go:42", after := #[{ on := 1, ground := Ground.data }], guard := none }) (v := .int .i64 (q : Int)) rfl (by kernel_rfl) (by kernel_rfl) (by kernel_rfl) (fun _ _ _ h => h) (Or.inl ⟨by rfl, fun w0 hSw => by ((have e9 := cell_nx PX.c1 hSw); go_simp)⟩) hH ?_
        simp only [Act.put, List.setIfInBounds_toArray, List.set_cons_zero, List.set_cons_succ]
        refine wpAnyH_take (i := 3) (oi := { dst := some 49, op := Op.indexAddr 44 (Operand.tmp 46) (Operand.tmp 48), type := 0, pos := "l19_commands.go:42", after := #[{ on := 0, ground := Ground.data }, { on := 2, ground := Ground.data }], guard := none }) (v := .pointer (some ⟨ga, q, none⟩)) rfl (by kernel_rfl) (by kernel_rfl) (by kernel_rfl) (fun _ _ _ h => h) (Or.inl ⟨by rfl, fun w0 hSw => by (go_simp)⟩) hH ?_
        simp only [Act.put, List.setIfInBounds_toArray, List.set_cons_zero, List.set_cons_succ]
        refine wpAnyH_take (i := 4) (oi := { dst := some 50, op := Op.load 3 (Operand.tmp 49), type := 3, pos := "l19_commands.go:42", after := #[{ on := 3, ground := Ground.data }], guard := none }) (v := .int .i64 xk) rfl (by kernel_rfl) (by kernel_rfl) (by kernel_rfl) (fun _ _ _ h => h) (Or.inl ⟨by rfl, fun w0 hSw => by ((have e9 := cell_nx hs hSw); go_simp)⟩) hH ?_
        simp only [Act.put, List.setIfInBounds_toArray, List.set_cons_zero, List.set_cons_succ]
        refine wpAnyH_take (i := 5) (oi := { dst := some 51, op := Op.fieldAddr 35 (Operand.tmp 7) 0, type := 0, pos := "l19_commands.go:42", after := #[], guard := none }) (v := .pointer (some ⟨wr.heap.size, 0, none⟩)) rfl (by kernel_rfl) (by kernel_rfl) (by kernel_rfl) (fun _ _ _ h => h) (Or.inl ⟨by rfl, fun w0 hSw => by (go_simp)⟩) hH ?_
        simp only [Act.put, List.setIfInBounds_toArray, List.set_cons_zero, List.set_cons_succ]
        refine wpAnyH_take (i := 6) (oi := { dst := some 52, op := Op.load 3 (Operand.tmp 51), type := 3, pos := "l19_commands.go:42", after := #[{ on := 5, ground := Ground.data }], guard := none }) (v := .int .i64 xk) rfl (by kernel_rfl) (by kernel_rfl) (by kernel_rfl) (fun _ _ _ h => h) (Or.inl ⟨by rfl, fun w0 hSw => by ((have e9 := cell_nx PX.c0 hSw); go_simp)⟩) hH ?_
        simp only [Act.put, List.setIfInBounds_toArray, List.set_cons_zero, List.set_cons_succ]
        refine wpAnyH_take (i := 7) (oi := { dst := some 53, op := Op.binOp BinOp.neq 3 (Operand.tmp 50) (Operand.tmp 52) 3, type := 4, pos := "l19_commands.go:42", after := #[{ on := 4, ground := Ground.data }, { on := 6, ground := Ground.data }], guard := none }) (v := .bool false) rfl (by kernel_rfl) (by kernel_rfl) (by kernel_rfl) (fun _ _ _ h => h) (Or.inl ⟨by rfl, fun w0 hSw => by (go_simp)⟩) hH ?_
        simp only [Act.put, List.setIfInBounds_toArray, List.set_cons_zero, List.set_cons_succ]
        refine wpAnyH_done (by kernel_rfl) ?_ _
        have HDW : Hid (Own (XA.setCell ⟨gb, q, none⟩ (.bool true)) gb 8 (fun x => .bool (doW xk xf q U x))) := by
          show Own _ _ _ _
          unfold doW
          rw [if_pos (by omega)]
          exact own_updb OU hq true
        have HDA : Hid (Own (XA.setCell ⟨gb, q, none⟩ (.bool true)) ga 8 (fun x => .int .i64 (S x))) := own_far OA gb q _ (by have := HGA.out; omega)
        go_wp2
        go_roundw
        case rel => exact ⟨k + 1, by omega, by go_num, ⟨HDS.out _ HDA.out, HW.out _ HDW.out, HN2.out⟩, (BX.setCell (by have := HGA.out; simp; omega) _)⟩
        case measure => simp [intOf]; omega
    · have HU : Hid (∀ v, Calls Try.prog 34 #[.int .i64 xk] v fun e w' => e = .returned (.bool false) ∧ w' = v) := fun v => by have h := muses xk v; rwa [decide_eq_false k13] at h
      obtain rfl : z = 0 := by
        have e0 : tfB xk s = false := decide_eq_false (fun h => k13 h.1)
        rw [HF.out, if_neg (by rw [e0]; decide), if_neg (fun h => k4 h.1), if_neg (by omega)]
      have HN2 := Hid.mk (HN1.out rfl)
      clear HA HN1 HF
      have PX := C5.new wr 35 (.int .i64 xk) (.int .i64 (q : Int)) (.int .i64 xf) (.int .i64 xo) (.int .i64 xm)
      have hs := cell_nx hs0 (alloc_b (o := .cells #[.int .i64 xk, .int .i64 (q : Int), .int .i64 xf, .int .i64 xo, .int .i64 xm] 35))
      have hu := cell_nx hu0 (alloc_b (o := .cells #[.int .i64 xk, .int .i64 (q : Int), .int .i64 xf, .int .i64 xo, .int .i64 xm] 35))
      have OA := RA.next (alloc_b (o := .cells #[.int .i64 xk, .int .i64 (q : Int), .int .i64 xf, .int .i64 xo, .int .i64 xm] 35))
      have OU := RB.next (alloc_b (o := .cells #[.int .i64 xk, .int .i64 (q : Int), .int .i64 xf, .int .i64 xo, .int .i64 xm] 35))
      have hu2 := OU.free q
      have ha2 := OA.free q
      have BX : Below w.heap.size w (wr.alloc (.cells #[.int .i64 xk, .int .i64 (q : Int), .int .i64 xf, .int .i64 xo, .int .i64 xm] 35)) := B.alloc B.size _
      have HDS : Hid (Own (wr.alloc (.cells #[.int .i64 xk, .int .i64 (q : Int), .int .i64 xf, .int .i64 xo, .int .i64 xm] 35)) ga 8 (fun x => .int .i64 (doS xk xo q S x))) := by
        show Own _ _ _ _
        unfold doS
        rw [if_neg k4]
        exact OA
      have HDW : Hid (Own (wr.alloc (.cells #[.int .i64 xk, .int .i64 (q : Int), .int .i64 xf, .int .i64 xo, .int .i64 xm] 35)) gb 8 (fun x => .bool (doW xk xf q U x))) := by
        show Own _ _ _ _
        unfold doW
        rw [if_neg (by omega), if_neg (by omega)]
        exact OU
      go_wp2_with (first | (go_at_call 34; refine (HU.out _).mono ?_; rintro e w9 ⟨rfl, hw⟩; subst w9))
      go_roundw
      case rel => exact ⟨k + 1, by omega, by go_num, ⟨HS.out _ HDS.out, HW.out _ HDW.out, HN2.out⟩, BX⟩
      case measure => simp [intOf]; omega
end Go.Proofs.Ytnbpncjbfnhkjaa
