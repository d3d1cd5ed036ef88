/- CheckList of the model. -/
import Derived.Test.YtnbpncjbfnhkjaaVh
namespace Go.Proofs.Ytnbpncjbfnhkjaa
open Go.ChangeShapes Go.WideShapes Go.ChangeAt Go.RowKit
set_option linter.unusedVariables false
theorem ArgC.mono {w : World} {a : Option Addr} {n m : Nat} {K T F O M : Nat → Int} (h : ArgC w a n K T F O M) (hm : m ≤ n) : ArgC w a m K T F O M := by
  rcases h with h | ⟨g, off, h1, h2, h3⟩
  · exact Or.inl (by omega)
  · exact Or.inr ⟨g, off, h1, h2, fun i hi => h3 i (by omega)⟩
theorem flt_bad {K T F O M : Nat → Int} {i : Nat} (h : gcB (K i) (T i) (F i) (O i) (M i) = false) : flI K T F O M i = 1 := by unfold flI fltV; rw [if_pos h]
set_option maxRecDepth 100000 in
set_option maxHeartbeats 8000000 in
theorem mcheck (ad : Option Addr) (n c : Nat) (K T F O M : Nat → Int) (w : World) (A : ArgC w ad n K T F O M) (hn : n ≤ 9223372036854775807) (hc : n ≤ c) : Calls Try.prog 12 #[.slice ad n c] w fun e w' => e = .returned (.agg #[.int .i64 (clC K T F O M n), .int .i64 0, .int .i64 (clA K T F O M n), .int .i64 0]) ∧ Below w.heap.size w w' := by
  have R2 := C4.new w 28 (.int .i64 0) (.int .i64 0) (.int .i64 0) (.int .i64 0)
  have BX : Below w.heap.size w (w.alloc (.cells #[.int .i64 0, .int .i64 0, .int .i64 0, .int .i64 0] 28)) := alloc_b
  by_cases h60 : n ≤ 60
  case neg =>
    have h1 : (60 : Int) < (n : Int) := by omega
    have e1 : clC K T F O M n = 1 := if_neg h60
    have e2 : clA K T F O M n = 0 := if_neg h60
    rw [e1, e2]
    clear A e1 e2
    go_enter Try.func12, Try.ntmps12
    go_wp2
    exact bodyPost_ret (v := .agg #[.int .i64 1, .int .i64 0, .int .i64 0, .int .i64 0]) (by simp [results, Try.results12, go_sem]) rfl ⟨rfl, by first | exact alloc_b | exact BX⟩
  have h1 : ¬ (60 : Int) < (n : Int) := by omega
  have e1 : clC K T F O M n = ckC (flI K T F O M) n := if_pos h60
  have e2 : clA K T F O M n = ckA (flI K T F O M) n := if_pos h60
  rw [e1, e2]
  clear e1 e2
  have HX := A.hid
  have HM : Hid (∀ v m, Below w.heap.size w v → m ≤ n → (∀ i, i < m → gcB (K i) (T i) (F i) (O i) (M i) = true) → Calls Try.prog 36 #[.slice ad m c] v fun e w' => e = .returned (.tuple #[.int .i64 (ckC (flI K T F O M) m), .int .i64 (ckA (flI K T F O M) m)]) ∧ Below v.heap.size v w') := fun v m b hm hg => mcheck0 ad m c K T F O M v ((A.mono hm).next b) (by omega) hg
  have HBAD : Hid (∀ k, k < n → gcB (K k) (T k) (F k) (O k) (M k) = false → (ckC (flI K T F O M) k ≠ 0 → ckC (flI K T F O M) n = ckC (flI K T F O M) k ∧ ckA (flI K T F O M) n = ckA (flI K T F O M) k) ∧ (ckC (flI K T F O M) k = 0 → ckC (flI K T F O M) n = 1 ∧ ckA (flI K T F O M) n = k)) := fun k hk hb => ck_bad hk (flt_bad hb)
  clear A
  generalize hcc : ckC (flI K T F O M) n = CC at HBAD ⊢
  generalize hca : ckA (flI K T F O M) n = CA at HBAD ⊢
  have HCN : Hid (ckC (flI K T F O M) n = CC ∧ ckA (flI K T F O M) n = CA) := ⟨hcc, hca⟩
  clear hcc hca
  have hcn : (n : Int) ≤ (c : Int) := by omega
  go_enter Try.func12, Try.ntmps12
  go_wp2
  obtain ⟨X0, hX0⟩ : ∃ z, (w.alloc (.cells #[.int .i64 0, .int .i64 0, .int .i64 0, .int .i64 0] 28)) = z := ⟨_, rfl⟩
  rw [hX0] at R2 BX ⊢
  clear hX0
  go_loopw [3, 16] (fun nv i wr => ∃ k : Nat, k ≤ n ∧ nv = .int .i64 n ∧ i = .int .i64 k ∧ Hid (∀ j, j < k → gcB (K j) (T j) (F j) (O j) (M j) = true) ∧ Below X0.heap.size X0 wr) (fun _ i _ => n - (intOf i).toNat)
  case atStart => exact ⟨0, Nat.zero_le _, rfl, rfl, fun j hj => absurd hj (Nat.not_lt_zero _), Below.refl _ _⟩
  case round =>
    obtain ⟨k, hk, rfl, rfl, HG, B0⟩ := hrel
    have B : Below w.heap.size w wr := BX.trans (B0.mono BX.size)
    have R3 := R2.next B0
    by_cases hkn : k < n
    case neg =>
      obtain rfl : n = k := by omega
      have i1 : ¬ ((n : Nat) : Int) < (n : Int) := by omega
      have HM2 := Hid.mk (HM.out wr n B (Nat.le_refl _) HG.out)
      rw [HCN.out.1, HCN.out.2] at HM2
      clear HBAD HM HX HCN HG B0 R2 BX
      by_cases hz : CC = 0
      · subst hz
        go_wp2_with (first | (go_at_call 36; refine HM2.out.mono ?_; rintro e w2 ⟨rfl, B2⟩; (have R3 := R3.next B2); (have r0 := R3.c0); (have r1 := R3.c1); (have r2 := R3.c2); (have r3 := R3.c3); (have rf := R3.f)))
        have RF := ((((R3.s0 (.int .i64 0)).s1 (.int .i64 0)).s2 (.int .i64 CA)).s3 (.int .i64 0))
        have q0 := RF.c0
        have q1 := RF.c1
        have q2 := RF.c2
        have q3 := RF.c3
        exact bodyPost_ret (v := .agg #[.int .i64 0, .int .i64 0, .int .i64 CA, .int .i64 0]) (by simp [results, Try.results12, go_sem, q0, q1, q2, q3]) rfl ⟨rfl, ((((B.trans (B2.mono B.size)).setCell (by simp) _).setCell (by simp) _).setCell (by simp) _).setCell (by simp) _⟩
      · have hzb : (CC == 0) = false := by simpa using hz
        go_wp2_with (first | (go_at_call 36; refine HM2.out.mono ?_; rintro e w2 ⟨rfl, B2⟩; (have R3 := R3.next B2); (have r0 := R3.c0); (have r1 := R3.c1); (have r2 := R3.c2); (have r3 := R3.c3); (have rf := R3.f)))
        have RF := ((((R3.s0 (.int .i64 CC)).s1 (.int .i64 0)).s2 (.int .i64 CA)).s3 (.int .i64 0))
        have q0 := RF.c0
        have q1 := RF.c1
        have q2 := RF.c2
        have q3 := RF.c3
        exact bodyPost_ret (v := .agg #[.int .i64 CC, .int .i64 0, .int .i64 CA, .int .i64 0]) (by simp [results, Try.results12, go_sem, q0, q1, q2, q3]) rfl ⟨rfl, ((((B.trans (B2.mono B.size)).setCell (by simp) _).setCell (by simp) _).setCell (by simp) _).setCell (by simp) _⟩
    obtain ⟨g, off, rfl, hg, d0, d1, d2, d3, d4⟩ := HX.out k hkn
    replace d0 := (B.cell (p := ⟨g, off + k * 5, none⟩) hg).trans d0
    replace d1 := (B.cell (p := ⟨g, off + k * 5 + 1, none⟩) hg).trans d1
    replace d2 := (B.cell (p := ⟨g, off + k * 5 + 2, none⟩) hg).trans d2
    replace d3 := (B.cell (p := ⟨g, off + k * 5 + 3, none⟩) hg).trans d3
    replace d4 := (B.cell (p := ⟨g, off + k * 5 + 4, none⟩) hg).trans d4
    have i1 : (k : Int) < (n : Int) := by omega
    have i0 : (0 : Int) ≤ (k : Int) := by omega
    have HGK : Hid (gcB (K k) (T k) (F k) (O k) (M k) = true → ∀ j, j < k + 1 → gcB (K j) (T j) (F j) (O j) (M j) = true) := fun h j hj => if e : j = k then e ▸ h else HG.out j (by omega)
    have HBK := Hid.mk (HBAD.out k hkn)
    have HMK := Hid.mk (fun v b => HM.out v k b (by omega) HG.out)
    generalize hCk : ckC (flI K T F O M) k = Ck at HBK HMK
    generalize hAk : ckA (flI K T F O M) k = Ak at HBK HMK
    clear hCk hAk
    have HGC : Hid (∀ v, Calls Try.prog 14 #[.agg #[.int .i64 (K k), .int .i64 (T k), .int .i64 (F k), .int .i64 (O k), .int .i64 (M k)]] v fun e w'' => e = .returned (.bool (gcB (K k) (T k) (F k) (O k) (M k))) ∧ Below v.heap.size v w'') := fun v => mgc _ _ _ _ _ v
    generalize gcB (K k) (T k) (F k) (O k) (M k) = gb at HGC HGK HBK
    generalize K k = xk at HGC d0
    generalize T k = xt at HGC d1
    generalize F k = xf at HGC d2
    generalize O k = xo at HGC d3
    generalize M k = xm at HGC d4
    have BW : Below w.heap.size w (wr.alloc (.cells #[.int .i64 xk, .int .i64 xt, .int .i64 xf, .int .i64 xo, .int .i64 xm] 35)) := B.alloc B.size _
    have BW0 : Below X0.heap.size X0 (wr.alloc (.cells #[.int .i64 xk, .int .i64 xt, .int .i64 xf, .int .i64 xo, .int .i64 xm] 35)) := B0.alloc B0.size _
    have R3 := R3.next (alloc_b (o := .cells #[.int .i64 xk, .int .i64 xt, .int .i64 xf, .int .i64 xo, .int .i64 xm] 35))
    clear HBAD HM HX HG HCN R2
    cases gb
    case true =>
      have HN2 := Hid.mk (HGK.out rfl)
      clear HBK HMK HGK
      go_wp2_with (first | (go_at_call 14; refine (HGC.out _).mono ?_; rintro e w2 ⟨rfl, B2⟩))
      go_roundw
      case rel => exact ⟨k + 1, by omega, rfl, by go_num, HN2, BW0.trans (B2.mono BW0.size)⟩
      case measure => simp [intOf]; omega
    have HB1 := Hid.mk (HBK.out rfl)
    clear HBK HGK
    have kc : (k : Int) ≤ (c : Int) := by omega
    by_cases hz : Ck = 0
    · subst hz
      obtain ⟨rfl, rfl⟩ := HB1.out.2 rfl
      clear HB1
      go_wp2_with (first | (go_at_call 14; refine (HGC.out _).mono ?_; rintro e w2 ⟨rfl, B2⟩) | (go_at_call 36; refine (HMK.out w2 (BW.trans (B2.mono BW.size))).mono ?_; rintro e w3 ⟨rfl, B3⟩; (have R3 := (R3.next B2).next B3); (have r0 := R3.c0); (have r1 := R3.c1); (have r2 := R3.c2); (have r3 := R3.c3); (have rf := R3.f)))
      have RF := ((((R3.s0 (.int .i64 1)).s1 (.int .i64 0)).s2 (.int .i64 (k : Int))).s3 (.int .i64 0))
      have q0 := RF.c0
      have q1 := RF.c1
      have q2 := RF.c2
      have q3 := RF.c3
      exact bodyPost_ret (v := .agg #[.int .i64 1, .int .i64 0, .int .i64 (k : Int), .int .i64 0]) (by simp [results, Try.results12, go_sem, q0, q1, q2, q3]) rfl ⟨rfl, (((((BW.trans (B2.mono BW.size)).trans (B3.mono (Nat.le_trans BW.size B2.size))).setCell (by simp) _).setCell (by simp) _).setCell (by simp) _).setCell (by simp) _⟩
    · have hzb : (Ck == 0) = false := by simpa using hz
      obtain ⟨rfl, rfl⟩ := HB1.out.1 hz
      clear HB1
      go_wp2_with (first | (go_at_call 14; refine (HGC.out _).mono ?_; rintro e w2 ⟨rfl, B2⟩) | (go_at_call 36; refine (HMK.out w2 (BW.trans (B2.mono BW.size))).mono ?_; rintro e w3 ⟨rfl, B3⟩; (have R3 := (R3.next B2).next B3); (have r0 := R3.c0); (have r1 := R3.c1); (have r2 := R3.c2); (have r3 := R3.c3); (have rf := R3.f)))
      have RF := ((((R3.s0 (.int .i64 CC)).s1 (.int .i64 0)).s2 (.int .i64 CA)).s3 (.int .i64 0))
      have q0 := RF.c0
      have q1 := RF.c1
      have q2 := RF.c2
      have q3 := RF.c3
      exact bodyPost_ret (v := .agg #[.int .i64 CC, .int .i64 0, .int .i64 CA, .int .i64 0]) (by simp [results, Try.results12, go_sem, q0, q1, q2, q3]) rfl ⟨rfl, (((((BW.trans (B2.mono BW.size)).trans (B3.mono (Nat.le_trans BW.size B2.size))).setCell (by simp) _).setCell (by simp) _).setCell (by simp) _).setCell (by simp) _⟩
end Go.Proofs.Ytnbpncjbfnhkjaa
