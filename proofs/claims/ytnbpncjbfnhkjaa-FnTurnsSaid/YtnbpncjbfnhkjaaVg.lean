/- The first fault of a list of commands; firstFault and CheckList of the program. -/
import Derived.Test.YtnbpncjbfnhkjaaVf
namespace Go.Proofs.Ytnbpncjbfnhkjaa
open Go.ChangeShapes Go.WideShapes Go.ChangeAt Go.RowKit
set_option linter.unusedVariables false
/-- States behind the first commands. -/
def stS (K T O : Nat → Int) : Nat → Nat → Int
  | 0 => fun _ => 0
  | i + 1 => doS (K i) (O i) (T i).toNat (stS K T O i)
/-- What is written behind the first commands. -/
def stU (K T F : Nat → Int) : Nat → Nat → Bool
  | 0 => fun _ => false
  | i + 1 => doW (K i) (F i) (T i).toNat (stU K T F i)
/-- What is wrong with command i. -/
def flI (K T F O M : Nat → Int) (i : Nat) : Int := fltV (stS K T O i) (stU K T F i) (K i) (T i) (F i) (O i) (M i)
/-- The first of n that is not 0, n where none is. -/
def fst0 (f : Nat → Int) : Nat → Nat
  | 0 => 0
  | n + 1 => if fst0 f n < n then fst0 f n else if f n = 0 then n + 1 else n
def ckC (f : Nat → Int) (n : Nat) : Int := if fst0 f n < n then f (fst0 f n) else 0
def ckA (f : Nat → Int) (n : Nat) : Int := if fst0 f n < n then (fst0 f n : Int) else 0
theorem fst0_no (f : Nat → Int) : ∀ n, (∀ j, j < n → f j = 0) → fst0 f n = n
  | 0, _ => rfl
  | n + 1, h => by
    have q := fst0_no f n (fun j hj => h j (by omega))
    rw [fst0, if_neg (by omega), if_pos (h n (by omega))]
theorem fst0_at (f : Nat → Int) (i : Nat) (h : ∀ j, j < i → f j = 0) (hi : f i ≠ 0) : ∀ n, i < n → fst0 f n = i
  | 0, hn => absurd hn (Nat.not_lt_zero _)
  | n + 1, hn => by
    by_cases e : i = n
    · subst e
      have q := fst0_no f i h
      rw [fst0, if_neg (by omega), if_neg hi]
    · have q := fst0_at f i h hi n (by omega)
      rw [fst0, if_pos (by omega), q]
theorem ck_no {f : Nat → Int} {n : Nat} (h : ∀ j, j < n → f j = 0) : ckC f n = 0 ∧ ckA f n = 0 := by
  have q := fst0_no f n h
  unfold ckC ckA
  rw [if_neg (by omega), if_neg (by omega)]
  exact ⟨rfl, rfl⟩
theorem ck_at {f : Nat → Int} {n i : Nat} (h : ∀ j, j < i → f j = 0) (hn : i < n) (hi : f i ≠ 0) : ckC f n = f i ∧ ckA f n = i := by
  have q := fst0_at f i h hi n hn
  unfold ckC ckA
  rw [q, if_pos hn, if_pos hn]
  exact ⟨rfl, rfl⟩
theorem flt_good {S : Nat → Int} {U : Nat → Bool} {k t f o m : Int} (h : fltV S U k t f o m = 0) : gcB k t f o m = true := by
  cases hg : gcB k t f o m
  · exfalso
    unfold fltV at h
    rw [if_pos hg] at h
    exact absurd h (by decide)
  · rfl
theorem gc_thing {k t f o m : Int} (h : gcB k t f o m = true) : ∃ i : Nat, t = (i : Int) ∧ i < 8 := by
  have hp := gc_iff.1 h
  unfold gcP at hp
  exact ⟨t.toNat, by omega, by omega⟩
theorem rowt_new (w : World) : RowT (w.alloc (.cells #[.int .i64 0, .bool false, .int .i64 0, .bool false, .int .i64 0, .bool false, .int .i64 0, .bool false, .int .i64 0, .bool false, .int .i64 0, .bool false, .int .i64 0, .bool false, .int .i64 0, .bool false] 58)) w.heap.size 8 (fun _ => 0) (fun _ => false) := by
  refine ⟨fun i hi => ?_, fun i hi => ?_, fun i => by simp, by simp⟩
  · have h : i = 0 ∨ i = 1 ∨ i = 2 ∨ i = 3 ∨ i = 4 ∨ i = 5 ∨ i = 6 ∨ i = 7 := by omega
    rcases h with rfl | rfl | rfl | rfl | rfl | rfl | rfl | rfl <;> simp
  · have h : i = 0 ∨ i = 1 ∨ i = 2 ∨ i = 3 ∨ i = 4 ∨ i = 5 ∨ i = 6 ∨ i = 7 := by omega
    rcases h with rfl | rfl | rfl | rfl | rfl | rfl | rfl | rfl <;> simp
theorem ArgC.hid {w : World} {a : Option Addr} {n : Nat} {K T F O M : Nat → Int} (h : ArgC w a n K T F O M) : Hid (∀ i, i < n → ∃ g off, a = some ⟨g, off, none⟩ ∧ g < w.heap.size ∧ w.cell? ⟨g, off + i * 5, none⟩ = some (.int .i64 (K i)) ∧ w.cell? ⟨g, off + i * 5 + 1, none⟩ = some (.int .i64 (T i)) ∧ w.cell? ⟨g, off + i * 5 + 2, none⟩ = some (.int .i64 (F i)) ∧ w.cell? ⟨g, off + i * 5 + 3, none⟩ = some (.int .i64 (O i)) ∧ w.cell? ⟨g, off + i * 5 + 4, none⟩ = some (.int .i64 (M i))) := by
  intro i hi
  rcases h with h | ⟨g, off, rfl, hl, hc⟩
  · omega
  · exact ⟨g, off, rfl, hl, hc i hi⟩
set_option maxRecDepth 100000 in
set_option maxHeartbeats 8000000 in
theorem pfirst (ad : Option Addr) (n c : Nat) (K T F O M : Nat → Int) (w : World) (A : ArgC w ad n K T F O M) (hn : n ≤ 9223372036854775807) : Calls Try.prog 35 #[.slice ad n c] w fun e w' => e = .returned (.tuple #[.int .i64 (ckC (flI K T F O M) n), .int .i64 (ckA (flI K T F O M) n)]) ∧ Below w.heap.size w w' := by
  have HX := A.hid
  have HNO : Hid ((∀ j, j < n → flI K T F O M j = 0) → ckC (flI K T F O M) n = 0 ∧ ckA (flI K T F O M) n = 0) := fun h => ck_no h
  have HAT : Hid (∀ i, (∀ j, j < i → flI K T F O M j = 0) → i < n → flI K T F O M i ≠ 0 → ckC (flI K T F O M) n = flI K T F O M i ∧ ckA (flI K T F O M) n = i) := fun i a b c => ck_at a b c
  generalize ckC (flI K T F O M) n = CC at HNO HAT ⊢
  generalize ckA (flI K T F O M) n = CA at HNO HAT ⊢
  clear A
  have RX := rowt_new w
  have BX : Below w.heap.size w (w.alloc (.cells #[.int .i64 0, .bool false, .int .i64 0, .bool false, .int .i64 0, .bool false, .int .i64 0, .bool false, .int .i64 0, .bool false, .int .i64 0, .bool false, .int .i64 0, .bool false, .int .i64 0, .bool false] 58)) := alloc_b
  go_enter Try.func35, Try.ntmps35
  go_wp2
  obtain ⟨X0, hX0⟩ : ∃ z, (w.alloc (.cells #[.int .i64 0, .bool false, .int .i64 0, .bool false, .int .i64 0, .bool false, .int .i64 0, .bool false, .int .i64 0, .bool false, .int .i64 0, .bool false, .int .i64 0, .bool false, .int .i64 0, .bool false] 58)) = z := ⟨_, rfl⟩
  rw [hX0] at RX BX ⊢
  clear hX0
  go_loopw [10] (fun i wr => ∃ k : Nat, k ≤ n ∧ i = .int .i64 k ∧ Hid (RowT wr w.heap.size 8 (stS K T O k) (stU K T F k) ∧ ∀ j, j < k → flI K T F O M j = 0) ∧ Below w.heap.size w wr) (fun i _ => n - (intOf i).toNat)
  case atStart => exact ⟨0, Nat.zero_le _, rfl, ⟨RX, fun j hj => absurd hj (Nat.not_lt_zero _)⟩, BX⟩
  case round =>
    clear RX BX
    obtain ⟨k, hk, rfl, HR, B⟩ := hrel
    by_cases hkn : k < n
    · obtain ⟨g, off, rfl, hg, d0, d1, d2, d3, d4⟩ := HX.out k hkn
      replace d0 := (B.cell (p := ⟨g, off + k * 5, none⟩) hg).trans d0
      replace d1 := (B.cell (p := ⟨g, off + k * 5 + 1, none⟩) hg).trans d1
      replace d2 := (B.cell (p := ⟨g, off + k * 5 + 2, none⟩) hg).trans d2
      replace d3 := (B.cell (p := ⟨g, off + k * 5 + 3, none⟩) hg).trans d3
      replace d4 := (B.cell (p := ⟨g, off + k * 5 + 4, none⟩) hg).trans d4
      have i1 : (k : Int) < (n : Int) := by omega
      have i0 : (0 : Int) ≤ (k : Int) := by omega
      have HK1 : Hid (stS K T O (k + 1) = doS (K k) (O k) (T k).toNat (stS K T O k) ∧ stU K T F (k + 1) = doW (K k) (F k) (T k).toNat (stU K T F k)) := ⟨rfl, rfl⟩
      have HF : Hid (flI K T F O M k = fltV (stS K T O k) (stU K T F k) (K k) (T k) (F k) (O k) (M k)) := rfl
      have HA : Hid (flI K T F O M k ≠ 0 → CC = flI K T F O M k ∧ CA = k) := HAT.out k HR.out.2 hkn
      have HN1 : Hid (flI K T F O M k = 0 → ∀ j, j < k + 1 → flI K T F O M j = 0) := fun h j hj => if e : j = k then e ▸ h else HR.out.2 j (by omega)
      have RK := HR.out.1
      generalize stS K T O k = S at HK1 HF RK
      generalize stU K T F k = U at HK1 HF RK
      generalize flI K T F O M k = z at HF HA HN1
      generalize K k = xk at HK1 HF d0
      generalize T k = xt at HK1 HF d1
      generalize F k = xf at HK1 HF d2
      generalize O k = xo at HK1 HF d3
      generalize M k = xm at HF d4
      have BW : Below w.heap.size w (wr.alloc (.cells #[.int .i64 xk, .int .i64 xt, .int .i64 xf, .int .i64 xo, .int .i64 xm] 35)) := B.alloc B.size _
      have RW := RK.next (alloc_b (o := .cells #[.int .i64 xk, .int .i64 xt, .int .i64 xf, .int .i64 xo, .int .i64 xm] 35))
      have PW := C5.new wr 35 (.int .i64 xk) (.int .i64 xt) (.int .i64 xf) (.int .i64 xo) (.int .i64 xm)
      by_cases hz : z = 0
      case neg =>
        obtain ⟨rfl, rfl⟩ := HA.out hz
        have HPF : Hid (Calls Try.prog 51 #[.pointer (some ⟨w.heap.size, 0, none⟩), .agg #[.int .i64 xk, .int .i64 xt, .int .i64 xf, .int .i64 xo, .int .i64 xm]] (wr.alloc (.cells #[.int .i64 xk, .int .i64 xt, .int .i64 xf, .int .i64 xo, .int .i64 xm] 35)) fun e w' => e = .returned (.int .i64 CC) ∧ Below (wr.alloc (.cells #[.int .i64 xk, .int .i64 xt, .int .i64 xf, .int .i64 xo, .int .i64 xm] 35)).heap.size (wr.alloc (.cells #[.int .i64 xk, .int .i64 xt, .int .i64 xf, .int .i64 xo, .int .i64 xm] 35)) w') := by rw [HF.out]; exact pfault w.heap.size xk xt xf xo xm S U _ RW
        clear HAT HNO HA HN1 HF HK1 HR HX
        go_wp2_with (first | (go_at_call 51; refine HPF.out.mono ?_; rintro e w2 ⟨rfl, B2⟩))
        go_ret2
        exact ⟨rfl, BW.trans (B2.mono BW.size)⟩
      subst hz
      obtain ⟨q, rfl, hq⟩ := gc_thing (flt_good HF.out.symm)
      have HPF : Hid (Calls Try.prog 51 #[.pointer (some ⟨w.heap.size, 0, none⟩), .agg #[.int .i64 xk, .int .i64 (q : Int), .int .i64 xf, .int .i64 xo, .int .i64 xm]] (wr.alloc (.cells #[.int .i64 xk, .int .i64 (q : Int), .int .i64 xf, .int .i64 xo, .int .i64 xm] 35)) fun e w' => e = .returned (.int .i64 0) ∧ Below (wr.alloc (.cells #[.int .i64 xk, .int .i64 (q : Int), .int .i64 xf, .int .i64 xo, .int .i64 xm] 35)).heap.size (wr.alloc (.cells #[.int .i64 xk, .int .i64 (q : Int), .int .i64 xf, .int .i64 xo, .int .i64 xm] 35)) w') := by rw [HF.out]; exact pfault w.heap.size xk (q : Int) xf xo xm S U _ RW
      have HN2 := Hid.mk (HN1.out rfl)
      have HD : Hid (∀ v, RowT v w.heap.size 8 S U → Calls Try.prog 33 #[.pointer (some ⟨w.heap.size, 0, none⟩), .agg #[.int .i64 xk, .int .i64 (q : Int), .int .i64 xf, .int .i64 xo, .int .i64 xm]] v fun e w' => e = .returned (.tuple #[]) ∧ RowT w' w.heap.size 8 (stS K T O (k + 1)) (stU K T F (k + 1)) ∧ Only w.heap.size v w') := fun v R => by
        have h := pdo w.heap.size q xk xf xo xm S U v hq R
        rw [HK1.out.1, HK1.out.2, Int.toNat_natCast]
        exact h
      clear HAT HNO HA HN1 HF HK1 HX RK HR
      go_wp2_with (first | (go_at_call 51; refine HPF.out.mono ?_; rintro e w2 ⟨rfl, B2⟩; (have PW2 := PW.next B2); (have RW2 := RW.next B2); (have p0 := PW2.c0); (have p1 := PW2.c1); (have p2 := PW2.c2); (have p3 := PW2.c3); (have p4 := PW2.c4)) | (go_at_call 33; refine (HD.out w2 RW2).mono ?_; rintro e w3 ⟨rfl, RW3, O3⟩))
      go_roundw
      case rel => exact ⟨k + 1, by omega, by go_num, ⟨RW3, HN2.out⟩, (BW.trans (B2.mono BW.size)).trans (O3.below (Nat.le_refl _) (Nat.le_trans BW.size B2.size))⟩
      case measure => simp [intOf]; omega
    · obtain rfl : n = k := by omega
      have i1 : ¬ ((n : Nat) : Int) < (n : Int) := by omega
      obtain ⟨rfl, rfl⟩ := HNO.out HR.out.2
      clear HAT HNO HX
      go_wp2
      go_ret2
      exact ⟨rfl, B⟩
/-- What CheckList answers: code and number. -/
def clC (K T F O M : Nat → Int) (n : Nat) : Int := if n ≤ 60 then ckC (flI K T F O M) n else 1
def clA (K T F O M : Nat → Int) (n : Nat) : Int := if n ≤ 60 then ckA (flI K T F O M) n else 0
/-- A struct of 4 cells at the head of a block. -/
structure C4 (w : World) (b : Nat) (v0 v1 v2 v3 : Value) : Prop where
  c0 : w.cell? ⟨b, 0, none⟩ = some v0
  c1 : w.cell? ⟨b, 1, none⟩ = some v1
  c2 : w.cell? ⟨b, 2, none⟩ = some v2
  c3 : w.cell? ⟨b, 3, none⟩ = some v3
  f : ∀ i, w.frozen? ⟨b, i, none⟩ = false
  hi : b < w.heap.size
theorem C4.new (w : World) (t : TypeId) (v0 v1 v2 v3 : Value) : C4 (w.alloc (.cells #[v0, v1, v2, v3] t)) w.heap.size v0 v1 v2 v3 := ⟨by simp, by simp, by simp, by simp, fun i => by simp, by simp⟩
theorem C4.next {w w' : World} {b : Nat} {v0 v1 v2 v3 : Value} (h : C4 w b v0 v1 v2 v3) (k : Below w.heap.size w w') : C4 w' b v0 v1 v2 v3 := ⟨cell_nx h.c0 k, cell_nx h.c1 k, cell_nx h.c2 k, cell_nx h.c3 k, fun i => (k.frozen (p := ⟨b, i, none⟩) h.hi).trans (h.f i), by have := k.size; have := h.hi; omega⟩
theorem C4.block {w w' : World} {b : Nat} {v0 v1 v2 v3 : Value} (h : C4 w b v0 v1 v2 v3) (k : w'.heap[b]? = w.heap[b]?) (hs : w.heap.size ≤ w'.heap.size) : C4 w' b v0 v1 v2 v3 := ⟨(World.cell?_of_block (w := w) (a := ⟨b, 0, none⟩) k).trans h.c0, (World.cell?_of_block (w := w) (a := ⟨b, 1, none⟩) k).trans h.c1, (World.cell?_of_block (w := w) (a := ⟨b, 2, none⟩) k).trans h.c2, (World.cell?_of_block (w := w) (a := ⟨b, 3, none⟩) k).trans h.c3, fun i => (World.frozen?_of_block (w := w) (a := ⟨b, i, none⟩) k).trans (h.f i), by have := h.hi; omega⟩
def set4 (w : World) (b : Nat) (u0 u1 u2 u3 : Value) : World := ((((w.setCell ⟨b, 0, none⟩ u0).setCell ⟨b, 1, none⟩ u1).setCell ⟨b, 2, none⟩ u2).setCell ⟨b, 3, none⟩ u3)
theorem only_set4 (w : World) (b : Nat) (u0 u1 u2 u3 : Value) : Only b w (set4 w b u0 u1 u2 u3) := by
  unfold set4
  exact ((((Only.refl _ _).setCell _ _).setCell _ _).setCell _ _).setCell _ _
theorem C4.s0 {w : World} {b : Nat} {v0 v1 v2 v3 : Value} (h : C4 w b v0 v1 v2 v3) (x : Value) : C4 (w.setCell ⟨b, 0, none⟩ x) b x v1 v2 v3 := ⟨World.cell?_setCell_same' _ _ _ (by rw [h.c0]; rfl), by rw [World.cell?_setCell_other (h := addr_ne (by decide))]; exact h.c1, by rw [World.cell?_setCell_other (h := addr_ne (by decide))]; exact h.c2, by rw [World.cell?_setCell_other (h := addr_ne (by decide))]; exact h.c3, fun i => by simp [h.f i], by simpa using h.hi⟩
theorem C4.s1 {w : World} {b : Nat} {v0 v1 v2 v3 : Value} (h : C4 w b v0 v1 v2 v3) (x : Value) : C4 (w.setCell ⟨b, 1, none⟩ x) b v0 x v2 v3 := ⟨by rw [World.cell?_setCell_other (h := addr_ne (by decide))]; exact h.c0, World.cell?_setCell_same' _ _ _ (by rw [h.c1]; rfl), by rw [World.cell?_setCell_other (h := addr_ne (by decide))]; exact h.c2, by rw [World.cell?_setCell_other (h := addr_ne (by decide))]; exact h.c3, fun i => by simp [h.f i], by simpa using h.hi⟩
theorem C4.s2 {w : World} {b : Nat} {v0 v1 v2 v3 : Value} (h : C4 w b v0 v1 v2 v3) (x : Value) : C4 (w.setCell ⟨b, 2, none⟩ x) b v0 v1 x v3 := ⟨by rw [World.cell?_setCell_other (h := addr_ne (by decide))]; exact h.c0, by rw [World.cell?_setCell_other (h := addr_ne (by decide))]; exact h.c1, World.cell?_setCell_same' _ _ _ (by rw [h.c2]; rfl), by rw [World.cell?_setCell_other (h := addr_ne (by decide))]; exact h.c3, fun i => by simp [h.f i], by simpa using h.hi⟩
theorem C4.s3 {w : World} {b : Nat} {v0 v1 v2 v3 : Value} (h : C4 w b v0 v1 v2 v3) (x : Value) : C4 (w.setCell ⟨b, 3, none⟩ x) b v0 v1 v2 x := ⟨by rw [World.cell?_setCell_other (h := addr_ne (by decide))]; exact h.c0, by rw [World.cell?_setCell_other (h := addr_ne (by decide))]; exact h.c1, by rw [World.cell?_setCell_other (h := addr_ne (by decide))]; exact h.c2, World.cell?_setCell_same' _ _ _ (by rw [h.c3]; rfl), fun i => by simp [h.f i], by simpa using h.hi⟩
theorem C4.put {w : World} {b : Nat} {v0 v1 v2 v3 : Value} (h : C4 w b v0 v1 v2 v3) (u0 u1 u2 u3 : Value) : C4 (set4 w b u0 u1 u2 u3) b u0 u1 u2 u3 := ((((h.s0 u0).s1 u1).s2 u2).s3 u3)
set_option maxRecDepth 100000 in
set_option maxHeartbeats 8000000 in
theorem pcheck (ad : Option Addr) (n c : Nat) (K T F O M : Nat → Int) (w : World) (A : ArgC w ad n K T F O M) (hn : n ≤ 9223372036854775807) : Calls Try.prog 11 #[.slice ad n c] w fun e w' => e = .returned (.agg #[.int .i64 (clC K T F O M n), .int .i64 0, .int .i64 (clA K T F O M n), .int .i64 0]) ∧ Below w.heap.size w w' := by
  have R2 := C4.new w 28 (.int .i64 0) (.int .i64 0) (.int .i64 0) (.int .i64 0)
  have BX : Below w.heap.size w (w.alloc (.cells #[.int .i64 0, .int .i64 0, .int .i64 0, .int .i64 0] 28)) := alloc_b
  by_cases h60 : n ≤ 60
  case neg =>
    have h1 : (60 : Int) < (n : Int) := by omega
    have e1 : clC K T F O M n = 1 := if_neg h60
    have e2 : clA K T F O M n = 0 := if_neg h60
    rw [e1, e2]
    clear A e1 e2
    go_enter Try.func11, Try.ntmps11
    go_wp2
    exact bodyPost_ret (v := .agg #[.int .i64 1, .int .i64 0, .int .i64 0, .int .i64 0]) (by simp [results, Try.results11, go_sem]) rfl ⟨rfl, by first | exact alloc_b | exact BX⟩
  have h1 : ¬ (60 : Int) < (n : Int) := by omega
  have e1 : clC K T F O M n = ckC (flI K T F O M) n := if_pos h60
  have e2 : clA K T F O M n = ckA (flI K T F O M) n := if_pos h60
  rw [e1, e2]
  have HP := Hid.mk (pfirst ad n c K T F O M _ (A.next (alloc_b (o := .cells #[.int .i64 0, .int .i64 0, .int .i64 0, .int .i64 0] 28))) hn)
  clear A e1 e2
  generalize ckC (flI K T F O M) n = CC at HP ⊢
  generalize ckA (flI K T F O M) n = CA at HP ⊢
  go_enter Try.func11, Try.ntmps11
  go_wp2_with (first | (go_at_call 35; refine HP.out.mono ?_; rintro e w2 ⟨rfl, B2⟩; (have R2 := R2.next B2); (have r0 := R2.c0); (have r1 := R2.c1); (have r2 := R2.c2); (have r3 := R2.c3); (have rf := R2.f)))
  have RF := ((((R2.s0 (.int .i64 CC)).s1 (.int .i64 0)).s2 (.int .i64 CA)).s3 (.int .i64 0))
  have q0 := RF.c0
  have q1 := RF.c1
  have q2 := RF.c2
  have q3 := RF.c3
  exact bodyPost_ret (v := .agg #[.int .i64 CC, .int .i64 0, .int .i64 CA, .int .i64 0]) (by simp [results, Try.results11, go_sem, q0, q1, q2, q3]) rfl ⟨rfl, ((((BX.trans (B2.mono BX.size)).setCell (by simp) _).setCell (by simp) _).setCell (by simp) _).setCell (by simp) _⟩
end Go.Proofs.Ytnbpncjbfnhkjaa
