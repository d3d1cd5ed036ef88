/- HitBlock of both sides. -/
import Derived.Test.YtngmaeinehfimaaLj
namespace Go.Proofs.Ytngmaeinehfimaa
open Go.ChangeShapes Go.WideShapes Go.ChangeAt Go.RowKit
set_option linter.unusedVariables false
/-- What HitBlock answers. -/
def hbB (L H F W : List Int) : Bool := gbB L H && (grB F W && hiB (fun i => L.getD i 0) (fun i => H.getD i 0) (fun i => F.getD i 0) (fun i => W.getD i 0))
def hbN (L H F W : List Int) : Int := match hbB L H F W with
  | true => hiN (fun i => L.getD i 0) (fun i => H.getD i 0) (fun i => F.getD i 0) (fun i => W.getD i 0)
  | false => 0
def hbD (L H F W : List Int) : Int := match hbB L H F W with
  | true => hiD (fun i => L.getD i 0) (fun i => H.getD i 0) (fun i => F.getD i 0) (fun i => W.getD i 0)
  | false => 0
theorem gb_parts {L H : List Int} (h : gbB L H = true) : L.length = 3 ∧ H.length = 3 ∧ InC 3 (fun i => L.getD i 0) ∧ InC 3 (fun i => H.getD i 0) ∧ ∀ i, i < 3 → L.getD i 0 ≤ H.getD i 0 := by
  unfold gbB at h
  rw [Bool.and_eq_true, Bool.and_eq_true, Bool.and_eq_true, Bool.and_eq_true, decide_eq_true_eq, decide_eq_true_eq, decide_eq_true_eq] at h
  obtain ⟨h1, h2, a, b, c⟩ := h
  have k1 := thB_iff.1 h1
  have k2 := thB_iff.1 h2
  refine ⟨k1.1, k2.1, k1.2, k2.2, fun i hi => ?_⟩
  have hc : i = 0 ∨ i = 1 ∨ i = 2 := by omega
  rcases hc with rfl | rfl | rfl
  · exact a
  · exact b
  · exact c
theorem gr_parts {F W : List Int} (h : grB F W = true) : F.length = 3 ∧ W.length = 3 ∧ InC 3 (fun i => F.getD i 0) ∧ InC 3 (fun i => W.getD i 0) ∧ ∃ i, i < 3 ∧ W.getD i 0 ≠ 0 := by
  unfold grB at h
  rw [Bool.and_eq_true, Bool.and_eq_true] at h
  obtain ⟨h1, h2, h3⟩ := h
  have k1 := thB_iff.1 h1
  have k2 := thB_iff.1 h2
  refine ⟨k1.1, k2.1, k1.2, k2.2, ?_⟩
  by_cases e0 : W.getD 0 0 = 0
  · by_cases e1 : W.getD 1 0 = 0
    · by_cases e2 : W.getD 2 0 = 0
      · rw [decide_eq_true e0, decide_eq_true e1, decide_eq_true e2] at h3; cases h3
      · exact ⟨2, by omega, e2⟩
    · exact ⟨1, by omega, e1⟩
  · exact ⟨0, by omega, e0⟩
set_option maxRecDepth 100000 in
set_option maxHeartbeats 8000000 in
theorem mhitb (u v x y : Value) (L H F W : List Int) (w : World) (U : ARow w u L) (V : ARow w v H) (X : ARow w x F) (Y : ARow w y W) (hl : L.length ≤ 9223372036854775807) (hh : H.length ≤ 9223372036854775807) (hf : F.length ≤ 9223372036854775807) (hw : W.length ≤ 9223372036854775807) : Calls Try.prog 21 #[.agg #[u, v], .agg #[x, y]] w fun r w' => r = .returned (.tuple #[.int .i64 (hbN L H F W), .int .i64 (hbD L H F W), .bool (hbB L H F W)]) ∧ Below w.heap.size w w' := by
  have HG0 : Hid (∀ w', Below w.heap.size w w' → Calls Try.prog 12 #[.agg #[u, v]] w' fun r w'' => r = .returned (.bool (gbB L H)) ∧ Below w'.heap.size w' w'') := fun w' b => mgoodb u v L H w' (U.next b) (V.next b) hl hh
  have HR0 : Hid (∀ w', Below w.heap.size w w' → Calls Try.prog 17 #[.agg #[x, y]] w' fun r w'' => r = .returned (.bool (grB F W)) ∧ Below w'.heap.size w' w'') := fun w' b => mgoodr x y F W w' (X.next b) (Y.next b) hf hw
  have HH0 : Hid (gbB L H = true → grB F W = true → ∀ w', Below w.heap.size w w' → Calls Try.prog 54 #[.agg #[u, v], .agg #[x, y]] w' fun r w'' => ∃ n d : Int, r = .returned (.tuple #[.agg #[.int .i64 n, .int .i64 d], .bool (hiB (fun i => L.getD i 0) (fun i => H.getD i 0) (fun i => F.getD i 0) (fun i => W.getD i 0))]) ∧ (hiB (fun i => L.getD i 0) (fun i => H.getD i 0) (fun i => F.getD i 0) (fun i => W.getD i 0) = true → n = hiN (fun i => L.getD i 0) (fun i => H.getD i 0) (fun i => F.getD i 0) (fun i => W.getD i 0) ∧ d = hiD (fun i => L.getD i 0) (fun i => H.getD i 0) (fun i => F.getD i 0) (fun i => W.getD i 0)) ∧ Below w'.heap.size w' w'') := fun h1 h2 w' b => by
    obtain ⟨a1, a2, a3, a4, a5⟩ := gb_parts h1
    obtain ⟨b1, b2, b3, b4, b5⟩ := gr_parts h2
    exact mhit u v x y _ _ _ _ w' (r3_of (U.next b) a1) (r3_of (V.next b) a2) (r3_of (X.next b) b1) (r3_of (Y.next b) b2) a3 a4 b3 b4 a5 b5
  have HBB : Hid (hbB L H F W = (gbB L H && (grB F W && hiB (fun i => L.getD i 0) (fun i => H.getD i 0) (fun i => F.getD i 0) (fun i => W.getD i 0)))) := rfl
  have HBN : Hid (hbN L H F W = match hbB L H F W with | true => hiN (fun i => L.getD i 0) (fun i => H.getD i 0) (fun i => F.getD i 0) (fun i => W.getD i 0) | false => 0) := rfl
  have HBD : Hid (hbD L H F W = match hbB L H F W with | true => hiD (fun i => L.getD i 0) (fun i => H.getD i 0) (fun i => F.getD i 0) (fun i => W.getD i 0) | false => 0) := rfl
  generalize hiB (fun i => L.getD i 0) (fun i => H.getD i 0) (fun i => F.getD i 0) (fun i => W.getD i 0) = hb at HH0 HBB
  generalize hiN (fun i => L.getD i 0) (fun i => H.getD i 0) (fun i => F.getD i 0) (fun i => W.getD i 0) = hn at HH0 HBN
  generalize hiD (fun i => L.getD i 0) (fun i => H.getD i 0) (fun i => F.getD i 0) (fun i => W.getD i 0) = hd at HH0 HBD
  generalize gbB L H = gb at HG0 HH0 HBB
  generalize grB F W = gr at HR0 HH0 HBB
  generalize hbN L H F W = rn at HBN ⊢
  generalize hbD L H F W = rd at HBD ⊢
  generalize hbB L H F W = rb at HBB HBN HBD ⊢
  obtain ⟨ad, c, rfl, -⟩ := U
  obtain ⟨bd, d, rfl, -⟩ := V
  obtain ⟨fd, e, rfl, -⟩ := X
  obtain ⟨gd, f, rfl, -⟩ := Y
  clear hl hh hf hw
  generalize L.length = n at HG0 HH0 ⊢
  generalize H.length = m at HG0 HH0 ⊢
  generalize F.length = k at HR0 HH0 ⊢
  generalize W.length = l at HR0 HH0 ⊢
  obtain ⟨V, hV⟩ : ∃ V, ((w.alloc (.cells #[.slice ad n c, .slice bd m d] 27)).alloc (.cells #[.slice fd k e, .slice gd l f] 35)) = V := ⟨_, rfl⟩
  have BV : Below w.heap.size w V := by rw [← hV]; exact (alloc_b).trans ((alloc_b).mono (by simp))
  have X0 : C2 V (w.heap.size) (.slice ad n c) (.slice bd m d) := by
    have h := (C2.new w 27 (.slice ad n c) (.slice bd m d)).next (alloc_b (o := .cells #[.slice fd k e, .slice gd l f] 35))
    rw [hV] at h
    exact h
  have X1 : C2 V (w.heap.size + 1) (.slice fd k e) (.slice gd l f) := by
    have h := C2.new (w.alloc (.cells #[.slice ad n c, .slice bd m d] 27)) 35 (.slice fd k e) (.slice gd l f)
    rw [hV] at h
    simpa only [World.size_alloc] using h
  have HVE := Hid.mk hV
  clear hV
  have HC : Hid (∀ v', Below V.heap.size V v' → C2 v' w.heap.size (.slice ad n c) (.slice bd m d) ∧ C2 v' (w.heap.size + 1) (.slice fd k e) (.slice gd l f) ∧ Below w.heap.size w v') := fun v' b => ⟨X0.next b, X1.next b, BV.trans (b.mono BV.size)⟩
  have x00 := X0.c0
  have x01 := X0.c1
  have x10 := X1.c0
  have x11 := X1.c1
  have HBV := Hid.mk BV
  clear X0 X1 BV
  cases gb
  case false =>
    obtain rfl : rb = false := HBB.out
    obtain rfl : rn = 0 := HBN.out
    obtain rfl : rd = 0 := HBD.out
    clear HH0 HR0 HBB HBN HBD
    go_enter Try.func21, Try.ntmps21
    go_upto_region 1 with fail
    rw [HVE.out]
    clear HVE
    go_wp2_with (first | (go_at_call 12; refine (HG0.out _ HBV.out).mono ?_; rintro r2 w2 ⟨rfl, B2⟩; obtain ⟨P2, Q2, D2⟩ := HC.out w2 B2; clear x00 x01 x10 x11; (have x00 := P2.c0); (have x01 := P2.c1); (have x10 := Q2.c0); (have x11 := Q2.c1)))
    exact bodyPost_ret (v := .tuple #[.int .i64 0, .int .i64 0, .bool false]) (by simp [results, Try.results21, go_sem]) rfl ⟨rfl, D2⟩
  cases gr
  case false =>
    obtain rfl : rb = false := HBB.out
    obtain rfl : rn = 0 := HBN.out
    obtain rfl : rd = 0 := HBD.out
    clear HH0 HBB HBN HBD
    go_enter Try.func21, Try.ntmps21
    go_upto_region 1 with fail
    rw [HVE.out]
    clear HVE
    go_wp2_with (first | (go_at_call 12; refine (HG0.out _ HBV.out).mono ?_; rintro r2 w2 ⟨rfl, B2⟩; obtain ⟨P2, Q2, D2⟩ := HC.out w2 B2; clear x00 x01 x10 x11; (have x00 := P2.c0); (have x01 := P2.c1); (have x10 := Q2.c0); (have x11 := Q2.c1)) | (go_at_call 17; refine (HR0.out _ D2).mono ?_; rintro r3 w3 ⟨rfl, B3⟩; obtain ⟨P3, Q3, D3⟩ := HC.out w3 (B2.trans (B3.mono B2.size)); clear x00 x01 x10 x11; (have x00 := P3.c0); (have x01 := P3.c1); (have x10 := Q3.c0); (have x11 := Q3.c1)))
    exact bodyPost_ret (v := .tuple #[.int .i64 0, .int .i64 0, .bool false]) (by simp [results, Try.results21, go_sem]) rfl ⟨rfl, D3⟩
  have HH := Hid.mk (HH0.out rfl rfl)
  clear HH0
  cases hb
  case false =>
    obtain rfl : rb = false := HBB.out
    obtain rfl : rn = 0 := HBN.out
    obtain rfl : rd = 0 := HBD.out
    clear HBB HBN HBD
    go_enter Try.func21, Try.ntmps21
    go_upto_region 1 with fail
    rw [HVE.out]
    clear HVE
    go_wp2_with (first | (go_at_call 12; refine (HG0.out _ HBV.out).mono ?_; rintro r2 w2 ⟨rfl, B2⟩; obtain ⟨P2, Q2, D2⟩ := HC.out w2 B2; clear x00 x01 x10 x11; (have x00 := P2.c0); (have x01 := P2.c1); (have x10 := Q2.c0); (have x11 := Q2.c1)) | (go_at_call 17; refine (HR0.out _ D2).mono ?_; rintro r3 w3 ⟨rfl, B3⟩; obtain ⟨P3, Q3, D3⟩ := HC.out w3 (B2.trans (B3.mono B2.size)); clear x00 x01 x10 x11; (have x00 := P3.c0); (have x01 := P3.c1); (have x10 := Q3.c0); (have x11 := Q3.c1)) | (go_at_call 54; refine (HH.out _ D3).mono ?_; rintro r4 w4 ⟨tn, td, rfl, ht, B4⟩; (have D4 := D3.trans (B4.mono D3.size))))
    exact bodyPost_ret (v := .tuple #[.int .i64 0, .int .i64 0, .bool false]) (by simp [results, Try.results21, go_sem]) rfl ⟨rfl, D4.alloc D4.size _⟩
  case true =>
    obtain rfl : rb = true := HBB.out
    obtain rfl : rn = hn := HBN.out
    obtain rfl : rd = hd := HBD.out
    clear HBB HBN HBD
    go_enter Try.func21, Try.ntmps21
    go_upto_region 1 with fail
    rw [HVE.out]
    clear HVE
    go_wp2_with (first | (go_at_call 12; refine (HG0.out _ HBV.out).mono ?_; rintro r2 w2 ⟨rfl, B2⟩; obtain ⟨P2, Q2, D2⟩ := HC.out w2 B2; clear x00 x01 x10 x11; (have x00 := P2.c0); (have x01 := P2.c1); (have x10 := Q2.c0); (have x11 := Q2.c1)) | (go_at_call 17; refine (HR0.out _ D2).mono ?_; rintro r3 w3 ⟨rfl, B3⟩; obtain ⟨P3, Q3, D3⟩ := HC.out w3 (B2.trans (B3.mono B2.size)); clear x00 x01 x10 x11; (have x00 := P3.c0); (have x01 := P3.c1); (have x10 := Q3.c0); (have x11 := Q3.c1)) | (go_at_call 54; refine (HH.out _ D3).mono ?_; rintro r4 w4 ⟨tn, td, rfl, ht, B4⟩; (have D4 := D3.trans (B4.mono D3.size)); obtain ⟨h1, h2⟩ := ht (by first | rfl | trivial); subst h1 h2; (have T4 := C2.new w4 81 (.int .i64 tn) (.int .i64 td)); (have t0 := T4.c0); (have t1 := T4.c1)))
    go_quiet (fail)
    go_wp2
    exact bodyPost_ret (v := .tuple #[.int .i64 tn, .int .i64 td, .bool true]) (by simp [results, Try.results21, go_sem]) rfl ⟨rfl, below_drewN (D4.alloc D4.size _) _⟩
set_option maxRecDepth 100000 in
set_option maxHeartbeats 8000000 in
theorem phitb (u v x y : Value) (L H F W : List Int) (w : World) (U : ARow w u L) (V : ARow w v H) (X : ARow w x F) (Y : ARow w y W) (hl : L.length ≤ 9223372036854775807) (hh : H.length ≤ 9223372036854775807) (hf : F.length ≤ 9223372036854775807) (hw : W.length ≤ 9223372036854775807) : Calls Try.prog 22 #[.agg #[u, v], .agg #[x, y]] w fun r w' => r = .returned (.tuple #[.int .i64 (hbN L H F W), .int .i64 (hbD L H F W), .bool (hbB L H F W)]) ∧ Below w.heap.size w w' := by
  have HG0 : Hid (∀ w', Below w.heap.size w w' → Calls Try.prog 14 #[.agg #[u, v]] w' fun r w'' => r = .returned (.bool (gbB L H)) ∧ Below w'.heap.size w' w'') := fun w' b => pgoodb u v L H w' (U.next b) (V.next b) hl hh
  have HR0 : Hid (∀ w', Below w.heap.size w w' → Calls Try.prog 19 #[.agg #[x, y]] w' fun r w'' => r = .returned (.bool (grB F W)) ∧ Below w'.heap.size w' w'') := fun w' b => pgoodr x y F W w' (X.next b) (Y.next b) hf hw
  have HH0 : Hid (gbB L H = true → grB F W = true → ∀ w', Below w.heap.size w w' → Calls Try.prog 55 #[.agg #[x, y], .agg #[u, v]] w' fun r w'' => r = .returned (hiV (fun i => L.getD i 0) (fun i => H.getD i 0) (fun i => F.getD i 0) (fun i => W.getD i 0)) ∧ Below w'.heap.size w' w'') := fun h1 h2 w' b => by
    obtain ⟨a1, a2, a3, a4, a5⟩ := gb_parts h1
    obtain ⟨b1, b2, b3, b4, b5⟩ := gr_parts h2
    exact pmeets u v x y _ _ _ _ w' (r3_of (U.next b) a1) (r3_of (V.next b) a2) (r3_of (X.next b) b1) (r3_of (Y.next b) b2) a3 a4 b3 b4
  unfold hiV at HH0
  have HBB : Hid (hbB L H F W = (gbB L H && (grB F W && hiB (fun i => L.getD i 0) (fun i => H.getD i 0) (fun i => F.getD i 0) (fun i => W.getD i 0)))) := rfl
  have HBN : Hid (hbN L H F W = match hbB L H F W with | true => hiN (fun i => L.getD i 0) (fun i => H.getD i 0) (fun i => F.getD i 0) (fun i => W.getD i 0) | false => 0) := rfl
  have HBD : Hid (hbD L H F W = match hbB L H F W with | true => hiD (fun i => L.getD i 0) (fun i => H.getD i 0) (fun i => F.getD i 0) (fun i => W.getD i 0) | false => 0) := rfl
  generalize hiB (fun i => L.getD i 0) (fun i => H.getD i 0) (fun i => F.getD i 0) (fun i => W.getD i 0) = hb at HH0 HBB
  generalize hiN (fun i => L.getD i 0) (fun i => H.getD i 0) (fun i => F.getD i 0) (fun i => W.getD i 0) = hn at HH0 HBN
  generalize hiD (fun i => L.getD i 0) (fun i => H.getD i 0) (fun i => F.getD i 0) (fun i => W.getD i 0) = hd at HH0 HBD
  generalize gbB L H = gb at HG0 HH0 HBB
  generalize grB F W = gr at HR0 HH0 HBB
  generalize hbN L H F W = rn at HBN ⊢
  generalize hbD L H F W = rd at HBD ⊢
  generalize hbB L H F W = rb at HBB HBN HBD ⊢
  obtain ⟨ad, c, rfl, -⟩ := U
  obtain ⟨bd, d, rfl, -⟩ := V
  obtain ⟨fd, e, rfl, -⟩ := X
  obtain ⟨gd, f, rfl, -⟩ := Y
  clear hl hh hf hw
  generalize L.length = n at HG0 HH0 ⊢
  generalize H.length = m at HG0 HH0 ⊢
  generalize F.length = k at HR0 HH0 ⊢
  generalize W.length = l at HR0 HH0 ⊢
  obtain ⟨V, hV⟩ : ∃ V, ((w.alloc (.cells #[.slice ad n c, .slice bd m d] 27)).alloc (.cells #[.slice fd k e, .slice gd l f] 35)) = V := ⟨_, rfl⟩
  have BV : Below w.heap.size w V := by rw [← hV]; exact (alloc_b).trans ((alloc_b).mono (by simp))
  have X0 : C2 V (w.heap.size) (.slice ad n c) (.slice bd m d) := by
    have h := (C2.new w 27 (.slice ad n c) (.slice bd m d)).next (alloc_b (o := .cells #[.slice fd k e, .slice gd l f] 35))
    rw [hV] at h
    exact h
  have X1 : C2 V (w.heap.size + 1) (.slice fd k e) (.slice gd l f) := by
    have h := C2.new (w.alloc (.cells #[.slice ad n c, .slice bd m d] 27)) 35 (.slice fd k e) (.slice gd l f)
    rw [hV] at h
    simpa only [World.size_alloc] using h
  have HVE := Hid.mk hV
  clear hV
  have HC : Hid (∀ v', Below V.heap.size V v' → C2 v' w.heap.size (.slice ad n c) (.slice bd m d) ∧ C2 v' (w.heap.size + 1) (.slice fd k e) (.slice gd l f) ∧ Below w.heap.size w v') := fun v' b => ⟨X0.next b, X1.next b, BV.trans (b.mono BV.size)⟩
  have x00 := X0.c0
  have x01 := X0.c1
  have x10 := X1.c0
  have x11 := X1.c1
  have HBV := Hid.mk BV
  clear X0 X1 BV
  cases gb
  case false =>
    obtain rfl : rb = false := HBB.out
    obtain rfl : rn = 0 := HBN.out
    obtain rfl : rd = 0 := HBD.out
    clear HH0 HR0 HBB HBN HBD
    go_enter Try.func22, Try.ntmps22
    go_upto_region 1 with fail
    rw [HVE.out]
    clear HVE
    go_wp2_with (first | (go_at_call 14; refine (HG0.out _ HBV.out).mono ?_; rintro r2 w2 ⟨rfl, B2⟩; obtain ⟨P2, Q2, D2⟩ := HC.out w2 B2; clear x00 x01 x10 x11; (have x00 := P2.c0); (have x01 := P2.c1); (have x10 := Q2.c0); (have x11 := Q2.c1)))
    exact bodyPost_ret (v := .tuple #[.int .i64 0, .int .i64 0, .bool false]) (by simp [results, Try.results22, go_sem]) rfl ⟨rfl, D2⟩
  cases gr
  case false =>
    obtain rfl : rb = false := HBB.out
    obtain rfl : rn = 0 := HBN.out
    obtain rfl : rd = 0 := HBD.out
    clear HH0 HBB HBN HBD
    go_enter Try.func22, Try.ntmps22
    go_upto_region 1 with fail
    rw [HVE.out]
    clear HVE
    go_wp2_with (first | (go_at_call 14; refine (HG0.out _ HBV.out).mono ?_; rintro r2 w2 ⟨rfl, B2⟩; obtain ⟨P2, Q2, D2⟩ := HC.out w2 B2; clear x00 x01 x10 x11; (have x00 := P2.c0); (have x01 := P2.c1); (have x10 := Q2.c0); (have x11 := Q2.c1)) | (go_at_call 19; refine (HR0.out _ D2).mono ?_; rintro r3 w3 ⟨rfl, B3⟩; obtain ⟨P3, Q3, D3⟩ := HC.out w3 (B2.trans (B3.mono B2.size)); clear x00 x01 x10 x11; (have x00 := P3.c0); (have x01 := P3.c1); (have x10 := Q3.c0); (have x11 := Q3.c1)))
    exact bodyPost_ret (v := .tuple #[.int .i64 0, .int .i64 0, .bool false]) (by simp [results, Try.results22, go_sem]) rfl ⟨rfl, D3⟩
  have HH := Hid.mk (HH0.out rfl rfl)
  clear HH0
  cases hb
  case false =>
    obtain rfl : rb = false := HBB.out
    obtain rfl : rn = 0 := HBN.out
    obtain rfl : rd = 0 := HBD.out
    clear HBB HBN HBD
    go_enter Try.func22, Try.ntmps22
    go_upto_region 1 with fail
    rw [HVE.out]
    clear HVE
    go_wp2_with (first | (go_at_call 14; refine (HG0.out _ HBV.out).mono ?_; rintro r2 w2 ⟨rfl, B2⟩; obtain ⟨P2, Q2, D2⟩ := HC.out w2 B2; clear x00 x01 x10 x11; (have x00 := P2.c0); (have x01 := P2.c1); (have x10 := Q2.c0); (have x11 := Q2.c1)) | (go_at_call 19; refine (HR0.out _ D2).mono ?_; rintro r3 w3 ⟨rfl, B3⟩; obtain ⟨P3, Q3, D3⟩ := HC.out w3 (B2.trans (B3.mono B2.size)); clear x00 x01 x10 x11; (have x00 := P3.c0); (have x01 := P3.c1); (have x10 := Q3.c0); (have x11 := Q3.c1)) | (go_at_call 55; refine (HH.out _ D3).mono ?_; rintro r4 w4 ⟨rfl, B4⟩; (have D4 := D3.trans (B4.mono D3.size)); (have T4 := C2.new w4 85 (.int .i64 0) (.int .i64 0)); (have t0 := T4.c0); (have t1 := T4.c1)))
    go_quiet (fail)
    go_wp2
    exact bodyPost_ret (v := .tuple #[.int .i64 0, .int .i64 0, .bool false]) (by simp [results, Try.results22, go_sem]) rfl ⟨rfl, below_drewN (D4.alloc D4.size _) _⟩
  case true =>
    obtain rfl : rb = true := HBB.out
    obtain rfl : rn = hn := HBN.out
    obtain rfl : rd = hd := HBD.out
    clear HBB HBN HBD
    go_enter Try.func22, Try.ntmps22
    go_upto_region 1 with fail
    rw [HVE.out]
    clear HVE
    go_wp2_with (first | (go_at_call 14; refine (HG0.out _ HBV.out).mono ?_; rintro r2 w2 ⟨rfl, B2⟩; obtain ⟨P2, Q2, D2⟩ := HC.out w2 B2; clear x00 x01 x10 x11; (have x00 := P2.c0); (have x01 := P2.c1); (have x10 := Q2.c0); (have x11 := Q2.c1)) | (go_at_call 19; refine (HR0.out _ D2).mono ?_; rintro r3 w3 ⟨rfl, B3⟩; obtain ⟨P3, Q3, D3⟩ := HC.out w3 (B2.trans (B3.mono B2.size)); clear x00 x01 x10 x11; (have x00 := P3.c0); (have x01 := P3.c1); (have x10 := Q3.c0); (have x11 := Q3.c1)) | (go_at_call 55; refine (HH.out _ D3).mono ?_; rintro r4 w4 ⟨rfl, B4⟩; (have D4 := D3.trans (B4.mono D3.size)); (have T4 := C2.new w4 85 (.int .i64 rn) (.int .i64 rd)); (have t0 := T4.c0); (have t1 := T4.c1)))
    go_quiet (fail)
    go_wp2
    exact bodyPost_ret (v := .tuple #[.int .i64 rn, .int .i64 rd, .bool true]) (by simp [results, Try.results22, go_sem]) rfl ⟨rfl, below_drewN (D4.alloc D4.size _) _⟩
end Go.Proofs.Ytngmaeinehfimaa
