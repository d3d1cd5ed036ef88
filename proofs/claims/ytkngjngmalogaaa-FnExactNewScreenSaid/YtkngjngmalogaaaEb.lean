/- slices.Repeat of one color and of one number; the program's NewScreen. -/
import Derived.Test.YtkngjngmalogaaaEa
import Derived.Laws.CopyOwn
namespace Go.Proofs.Ytkngjngmalogaaa
open Go.ChangeShapes Go.WideShapes Go.ChangeAt Go.RowKit
set_option linter.unusedVariables false
theorem run_copy_s {P : Program} (w : World) (dT sT ty elem : TypeId) (s g o dLen dCap : Nat) (a : Addr) (sLen sCap : Nat) (cur : Array Value) (t : TypeId) (cs : List Value)
    (hu : P.underlying dT = some (.slice elem)) (hs : (P.info? elem).map (·.size) = some s)
    (hg : w.heap[g]? = some (.cells cur t (0, 0))) (hn : cs.length = Nat.min sLen dLen * s)
    (hsrc : ∀ j v, cs[j]? = some v → w.cell? (a.add j) = some v) (hfit : o + cs.length ≤ cur.size) (h1 : ∀ v ∈ cs, v.oneCell' = true) :
    (Builtin.copy_ #[dT, sT] ty #[.slice (some ⟨g, o, none⟩) dLen dCap, .slice (some a) sLen sCap]).run P w =
      .ok (goInt (Nat.min sLen dLen)) (w.setRow g (cur.toList.take o ++ cs ++ cur.toList.drop (o + cs.length)).toArray) := by
  have hl := run_loadCells_list (P := P) w a cs hsrc
  have hst := run_storeCells_at P g o t cs 0 cur w hg (by simpa using hfit) h1
  cases hq : P.info? elem with
  | none => simp [hq] at hs
  | some i =>
    have hi : i.size = s := by simpa [hq] using hs
    simp [Builtin.copy_, run_underlying hu, Builtin.lenOf, Builtin.firstCells, sizeOf, typeInfo, hq, hi, ← hn, hl, hst]
theorem wpList_cp {P : Program} {w : World} {ops : Array Oper} {rest : List Oper} {o : Oper} {a : Act} {Q : Exit → Act → World → Prop} (d s : Operand) (dT sT : TypeId) (hgd : o.guard = none)
    (ho : o.op = .call { callee := .builtin .copy, args := #[d, s], argTypes := #[dT, sT] }) (vd vs v : Value) (w' : World) (hd : a.eval d = vd) (hs : a.eval s = vs)
    (hr : (Builtin.copy_ #[dT, sT] o.type #[vd, vs]).run P w = .ok v w') (h : wpList P ops Q rest (a.put o.dst v) w') : wpList P ops Q (o :: rest) a w := by
  refine wpList_plain hgd fun K hK => ?_
  unfold Oper.wp
  simp [execOp, ho, resolve, invoke, builtin, hd, hs, hr, Result.andThen]
  exact hK _ _ h
theorem step_cp {P : Program} {ops : Array Oper} {o : Oper} {a : Act} {w : World} {K : Act → World → Prop} {Q : Exit → Act → World → Prop} {E : Prop} (d s : Operand) (dT sT : TypeId) (hgd : o.guard = none)
    (ho : o.op = .call { callee := .builtin .copy, args := #[d, s], argTypes := #[dT, sT] }) (vd vs v : Value) (w' : World) (hd : a.eval d = vd) (hs : a.eval s = vs)
    (hr : (Builtin.copy_ #[dT, sT] o.type #[vd, vs]).run P w = .ok v w') (hK : K (a.put o.dst v) w') : if Region.wanted o (yielded ops a.tmps) = true then Oper.wp P o a w K Q else E := by
  have hw : Region.wanted o (yielded ops a.tmps) = true := by simp [Region.wanted, hgd]
  rw [if_pos hw]
  unfold Oper.wp
  simp [execOp, ho, resolve, invoke, builtin, hd, hs, hr, Result.andThen]
  exact hK
/-- The same cells again and again. -/
def rp (E : List Value) : Nat → List Value
  | 0 => []
  | k + 1 => rp E k ++ E
theorem rp_len (E : List Value) : ∀ k, (rp E k).length = k * E.length
  | 0 => by simp [rp]
  | k + 1 => by rw [rp, List.length_append, rp_len E k, Nat.succ_mul]
theorem rp_add (E : List Value) (a : Nat) : ∀ b, rp E (a + b) = rp E a ++ rp E b
  | 0 => by simp [rp]
  | b + 1 => by rw [← Nat.add_assoc, rp, rp_add E a b, rp, List.append_assoc]
theorem rp_mem (E : List Value) : ∀ k v, v ∈ rp E k → v ∈ E
  | 0, v, h => by simp [rp] at h
  | k + 1, v, h => by
    rw [rp, List.mem_append] at h
    rcases h with h | h
    · exact rp_mem E k v h
    · exact h
theorem rp_at (E : List Value) : ∀ k i j, i < k → j < E.length → (rp E k)[i * E.length + j]? = E[j]?
  | k + 1, i, j, hi, hj => by
    rw [rp]
    by_cases e : i = k
    · subst e
      rw [List.getElem?_append_right (by rw [rp_len]; omega), rp_len]
      congr 1
      omega
    · have h1 : i * E.length + E.length ≤ k * E.length := by rw [← Nat.succ_mul]; exact Nat.mul_le_mul_right _ (by omega)
      rw [List.getElem?_append_left (by rw [rp_len]; omega)]
      exact rp_at E k i j (by omega) hj
/-- k elements that are laid already, and noughts. -/
def rwk (E : List Value) (s k n : Nat) : List Value := rp E k ++ List.replicate ((n - k) * s) (.int .i64 0)
theorem rwk_step (E : List Value) (s k n m : Nat) (hs : E.length = s) (hk : k ≤ n) (hm : m ≤ n - k) : (rwk E s k n).take (k * s) ++ rp E m ++ (rwk E s k n).drop (k * s + (rp E m).length) = rwk E s (k + m) n := by
  have e1 : (rp E k).length = k * s := by rw [rp_len, hs]
  have e2 : (rp E m).length = m * s := by rw [rp_len, hs]
  have hx : (n - k) * s - (k * s + m * s - (rp E k).length) = (n - (k + m)) * s := by
    rw [e1, Nat.add_sub_cancel_left, ← Nat.sub_mul]
    congr 1
    omega
  unfold rwk
  rw [e2, List.take_append_of_le_length (by omega), List.take_of_length_le (by omega), List.drop_append, List.drop_of_length_le (by omega), List.nil_append, List.drop_replicate, hx, rp_add]
theorem made_rwk (E : List Value) (z : Array Value) (s n : Nat) (hz : ∀ i, z[i % z.size]! = .int .i64 0) : (madeCells z (n * s)).toList = rwk E s 0 n := by
  unfold rwk rp
  apply List.ext_getElem?
  intro i
  by_cases h : i < n * s
  · have h2 : i < (n - 0) * s := by simpa using h
    simp [madeCells, h, hz]
  · have h2 : ¬ i < (n - 0) * s := by simpa using h
    simp [madeCells, h]
theorem own_heap {w : World} {B e s n : Nat} {g : Nat} {xs : List Value} (h : w.ownsRow B e s (.slice (some ⟨g, 0, none⟩) n n) n xs) : w.heap[g]? = some (.cells xs.toArray e (0, 0)) := by
  rcases h.2 with ⟨h0, _⟩ | ⟨g', cap, cur, h1, _, h2, _, _, h3, h4⟩
  · cases h0
  · injection h1 with h1 _ h5
    injection h1 with h1
    injection h1 with h1
    subst h1; subst h5
    rw [h2, ← h4, List.take_of_length_le (by simp [h3])]
theorem mask_n (a : Nat) (ha : a < 4294967296) : bits .and .u64 (a : Int) 4294967295 = (a : Int) := by
  show IntKind.u64.wrap ((BitVec.ofInt 64 a &&& BitVec.ofInt 64 4294967295).toNat : Int) = _
  have e : (BitVec.ofInt 64 4294967295).toNat = 2 ^ 32 - 1 := by decide
  rw [BitVec.toNat_and, e, Nat.and_two_pow_sub_one_eq_mod, BitVec.toNat_ofInt, IntKind.wrap_u64]
  omega
theorem wrap_n (a : Nat) (ha : a < 4294967296) : IntKind.u64.wrap (a : Int) = (a : Int) := by rw [IntKind.wrap_u64]; omega
theorem mul64n (n : Nat) (hn : n ≤ 576) (w : World) : Calls Try.prog 41 #[.int .u64 1, .int .u64 (n : Int)] w fun e w' => e = .returned (.tuple #[.int .u64 0, .int .u64 (n : Int)]) ∧ w' = w := by
  have e0 : bits .and .u64 1 4294967295 = 1 := by decide +kernel
  have e1 : bits .and .u64 (n : Int) 4294967295 = (n : Int) := mask_n n (by omega)
  have e2 : (n : Int) / 4294967296 = 0 := by omega
  have e3 : bits .and .u64 0 4294967295 = 0 := by decide +kernel
  have e4 : IntKind.u64.wrap (n : Int) = (n : Int) := wrap_n n (by omega)
  go_enter Try.func41, Try.ntmps41
  go_wp2
  go_ret2
  exact ⟨rfl, rfl⟩
theorem muln (n : Nat) (hn : n ≤ 576) (w : World) : Calls Try.prog 35 #[.int .u64 1, .int .u64 (n : Int)] w fun e w' => e = .returned (.tuple #[.int .u64 0, .int .u64 (n : Int)]) ∧ w' = w := by
  have HM : Hid (∀ w, Calls Try.prog 41 #[.int .u64 1, .int .u64 (n : Int)] w fun e w' => e = .returned (.tuple #[.int .u64 0, .int .u64 (n : Int)]) ∧ w' = w) := fun w => mul64n n hn w
  go_enter Try.func35, Try.ntmps35
  go_wp2_with (go_at_call 41; refine (HM.out _).mono ?_; rintro e w2 ⟨rfl, hw⟩; subst w2)
  go_ret2
  exact ⟨rfl, rfl⟩
set_option maxRecDepth 100000 in
set_option maxHeartbeats 4000000 in
theorem prepK (c : Col) (p cp n : Nat) (w : World) (Y : C4 w p (.int .i64 c.r) (.int .i64 c.g) (.int .i64 c.b) (.int .i64 c.a)) (n1 : 1 ≤ n) (n2 : n ≤ 576) : Calls Try.prog 19 #[.slice (some ⟨p, 0, none⟩) 1 cp, .int .i64 (n : Int)] w fun e w' => ∃ g, e = .returned (.slice (some ⟨g, 0, none⟩) n n) ∧ w.heap.size ≤ g ∧ RowH w' g n (fun _ => c.r) (fun _ => c.g) (fun _ => c.b) (fun _ => c.a) ∧ Below w.heap.size w w' := by
  obtain ⟨i0, hi, hz0, hz1, hz2⟩ := info_parts infoCo
  obtain ⟨E, hE⟩ : ∃ E : List Value, E = [.int .i64 c.r, .int .i64 c.g, .int .i64 c.b, .int .i64 c.a] := ⟨_, rfl⟩
  have hlen : E.length = 4 := by rw [hE]; rfl
  have hone : ∀ v ∈ E, v.oneCell' = true := by rw [hE]; intro u hu; simp at hu; rcases hu with rfl | rfl | rfl | rfl <;> rfl
  have HSRC : Hid (∀ w', Below w.heap.size w w' → ∀ j u, (rp E 1)[j]? = some u → w'.cell? ((⟨p, 0, none⟩ : Addr).add j) = some u) := fun w' b j u hj => by
    rw [rp, rp, List.nil_append, hE] at hj
    match j, hj with
    | 0, hj => simp at hj; subst hj; simpa [Addr.add] using cell_nx Y.c0 b
    | 1, hj => simp at hj; subst hj; simpa [Addr.add] using cell_nx Y.c1 b
    | 2, hj => simp at hj; subst hj; simpa [Addr.add] using cell_nx Y.c2 b
    | 3, hj => simp at hj; subst hj; simpa [Addr.add] using cell_nx Y.c3 b
  have HM : Hid (∀ w, Calls Try.prog 35 #[.int .u64 1, .int .u64 (n : Int)] w fun e w' => e = .returned (.tuple #[.int .u64 0, .int .u64 (n : Int)]) ∧ w' = w) := fun w => muln n n2 w
  have eu : IntKind.u64.wrap (n : Int) = (n : Int) := wrap_n n (by omega)
  have ei : IntKind.i64.wrap (n : Int) = (n : Int) := (IntKind.wrap_i64 _).trans (by omega)
  go_enter Try.func19, Try.ntmps19
  go_upto_region 7 with (first | (go_at_call 35; refine (HM.out _).mono ?_; rintro e w2 ⟨rfl, hw⟩; subst w2) | (at_make; refine wpList_make_full _ rfl _ _ 24 rfl w.heap.size 30 i0 (.agg #[.int .i64 0, .int .i64 0, .int .i64 0, .int .i64 0]) 4 Try.underlying24 hi hz0 hz1 _ _ _ _ n rfl rfl (by first | rfl | omega) (by first | rfl | omega) (by rw [hz2]; omega) (by unfold maxLen; omega) (Nat.le_refl _) ?_; intro w1 hown hgrow))
  have HZZ : ∀ i : Nat, (#[.int .i64 0, .int .i64 0, .int .i64 0, .int .i64 0] : Array Value)[i % 4]! = .int .i64 0 := fun i => by
    have h4 : i % 4 = 0 ∨ i % 4 = 1 ∨ i % 4 = 2 ∨ i % 4 = 3 := by omega
    rcases h4 with h | h | h | h <;> rw [h] <;> rfl
  have hg0 : w1.heap[w.heap.size]? = some (.cells (madeCells #[.int .i64 0, .int .i64 0, .int .i64 0, .int .i64 0] (n * 4)).toList.toArray 30 (0, 0)) := own_heap hown
  rw [made_rwk E _ 4 n HZZ] at hg0
  have B1 : Below w.heap.size w w1 := (Below.refl _ _).grown hgrow (Nat.le_refl _) (by simp)
  obtain ⟨g, hgd⟩ : ∃ g, w.heap.size = g := ⟨_, rfl⟩
  have HGD := Hid.mk hgd
  rw [hgd] at hg0 ⊢
  clear hown hgrow hi hz0 hz1 hz2 hgd
  have hrl : ∀ k, k ≤ n → (rwk E 4 k n).length = n * 4 := fun k hk => by unfold rwk; rw [List.length_append, rp_len, hlen, List.length_replicate, ← Nat.add_mul]; congr 1; omega
  have hr1 := run_copy_s (P := Try.prog) w1 24 24 3 30 4 g 0 n n ⟨p, 0, none⟩ 1 cp (rwk E 4 0 n).toArray 30 (rp E 1) Try.underlying24 (by kernel_rfl) hg0 (by rw [rp_len, hlen]; congr 1; exact (Nat.min_eq_left n1).symm) (HSRC.out w1 B1) (by simp only [List.size_toArray]; rw [hrl 0 (by omega), rp_len, hlen]; omega) (fun v hv => hone v (rp_mem E 1 v hv))
  have ec : (rwk E 4 0 n).toArray.toList.take 0 ++ rp E 1 ++ (rwk E 4 0 n).toArray.toList.drop (0 + (rp E 1).length) = rwk E 4 1 n := by
    have h := rwk_step E 4 0 n 1 hlen (by omega) (by omega)
    simpa using h
  rw [ec, show Nat.min 1 n = 1 from Nat.min_eq_left n1] at hr1
  have HR1 := Hid.mk hr1
  have g1 := setRow_heap w1 g _ (rwk E 4 1 n).toArray _ _ hg0
  have B2 : Below w.heap.size w (w1.setRow g (rwk E 4 1 n).toArray) := below_setRow B1 (by have := HGD.out; omega) _
  clear hr1 ec hg0 B1 HSRC
  have HG1 := Hid.mk (And.intro g1 B2)
  clear g1 B2
  have hr2 : Sem.run Try.prog (Builtin.copy_ #[24, 24] 3 #[.slice (some ⟨g, 0, none⟩) n n, .slice (some ⟨p, 0, none⟩) 1 cp]) w1 = .ok (.int .i64 1) (w1.setRow g (rwk E 4 1 n).toArray) := HR1.out
  obtain ⟨w2, hw2⟩ : ∃ z, w1.setRow g (rwk E 4 1 n).toArray = z := ⟨_, rfl⟩
  rw [hw2] at HG1 hr2
  clear HR1 hw2
  have HR2 := Hid.mk hr2
  clear hr2
  go_wp2_with (refine wpList_cp (.tmp 31) (.tmp 32) 24 24 rfl rfl _ _ _ _ rfl rfl HR2.out ?_)
  go_loopw [8] (fun v wr => ∃ k : Nat, 1 ≤ k ∧ k ≤ n ∧ v = .int .i64 (k : Int) ∧ Hid (wr.heap[g]? = some (.cells (rwk E 4 k n).toArray 30 (0, 0)) ∧ Below w.heap.size w wr)) (fun v _ => n - (intOf v).toNat)
  case atStart => exact ⟨1, Nat.le_refl _, n1, rfl, HG1⟩
  case round =>
    clear HG1
    obtain ⟨k, k1, k2, rfl, HR⟩ := hrel
    by_cases hkn : k < n
    · have i1 : (k : Int) < (n : Int) := by omega
      have i0 : (0 : Int) ≤ (k : Int) := by omega
      have i2 : (k : Int) ≤ (n : Int) := by omega
      obtain ⟨m, hm⟩ : ∃ m, Nat.min k (n - k) = m := ⟨_, rfl⟩
      have m1 : 1 ≤ m ∧ m ≤ k ∧ m ≤ n - k := by
        have h : m = min k (n - k) := hm.symm
        omega
      obtain ⟨ma, mb, mc⟩ := m1
      have HNEW : Hid ((wr.drew.setRow g (rwk E 4 (k + m) n).toArray).heap[g]? = some (.cells (rwk E 4 (k + m) n).toArray 30 (0, 0)) ∧ Below w.heap.size w (wr.drew.setRow g (rwk E 4 (k + m) n).toArray)) := by
        obtain ⟨h1, h2⟩ := HR.out
        exact ⟨setRow_heap wr.drew g _ _ _ _ h1, below_setRow (below_drew h2) (by have := HGD.out; omega) _⟩
      have HRUN : Hid ((Builtin.copy_ #[24, 24] 3 #[.slice (some ⟨g, k * 4, none⟩) (n - k) (n - k), .slice (some ⟨g, 0, none⟩) k n]).run Try.prog wr.drew = .ok (.int .i64 (m : Int)) (wr.drew.setRow g (rwk E 4 (k + m) n).toArray)) := by
        obtain ⟨h1, h2⟩ := HR.out
        have h := run_copy_s (P := Try.prog) wr.drew 24 24 3 30 4 g (k * 4) (n - k) (n - k) ⟨g, 0, none⟩ k n (rwk E 4 k n).toArray 30 (rp E m) Try.underlying24 (by kernel_rfl) h1 (by rw [rp_len, hlen, hm]) (fun j u hj => by
          have hj2 : j < m * 4 := by
            have := (List.getElem?_eq_some_iff.1 hj).1
            rwa [rp_len, hlen] at this
          have e1 : rwk E 4 k n = rp E m ++ (rp E (k - m) ++ List.replicate ((n - k) * 4) (.int .i64 0)) := by
            unfold rwk
            rw [← List.append_assoc, ← rp_add, show m + (k - m) = k by omega]
          have e2 : (rwk E 4 k n)[j]? = some u := by rw [e1, List.getElem?_append_left (by rw [rp_len, hlen]; exact hj2)]; exact hj
          have e3 : (⟨g, 0, none⟩ : Addr).add j = ⟨g, j, none⟩ := by simp [Addr.add]; intro h; exact h.symm
          rw [e3]
          have h3 : wr.drew.heap[g]? = some (.cells (rwk E 4 k n).toArray 30 (0, 0)) := h1
          simp [World.cell?, h3, e2]) (by simp only [List.size_toArray]; rw [hrl k k2, rp_len, hlen, ← Nat.add_mul]; exact Nat.mul_le_mul_right _ (by omega)) (fun v hv => hone v (rp_mem E m v hv))
        rw [hm] at h
        rw [show (rwk E 4 k n).toArray.toList = rwk E 4 k n from rfl, rwk_step E 4 k n m hlen k2 mc] at h
        exact h
      clear HR hone hrl hlen hE hm
      go_wp2
      generalize hWW : wr.drew = WX at HNEW HRUN
      refine wp_region_held_drew (S := fun _ => True) (by kernel_rfl) trivial (fun hH => ?_)
      rw [hWW]
      clear hWW
      refine wpAnyH_take (i := 0) (oi := { dst := some 38, op := Op.move (Operand.tmp 8), type := 3, pos := "slices.go:528", after := #[], guard := none }) (v := .int .i64 (k : Int)) rfl (by kernel_rfl) (by kernel_rfl) (by kernel_rfl) (fun _ _ _ h => h) (Or.inl ⟨by rfl, fun w0 hSw => by (go_simp)⟩) hH ?_
      simp only [Act.put, List.setIfInBounds_toArray, List.set_cons_zero, List.set_cons_succ]
      refine wpAnyH_take (i := 1) (oi := { dst := some 39, op := Op.move (Operand.tmp 7), type := 24, pos := "slices.go:528", after := #[], guard := none }) (v := .slice (some ⟨g, 0, none⟩) n n) rfl (by kernel_rfl) (by kernel_rfl) (by kernel_rfl) (fun _ _ _ h => h) (Or.inl ⟨by rfl, fun w0 hSw => by (go_simp)⟩) hH ?_
      simp only [Act.put, List.setIfInBounds_toArray, List.set_cons_zero, List.set_cons_succ]
      refine wpAnyH_take (i := 2) (oi := { dst := some 40, op := Op.move (Operand.tmp 8), type := 3, pos := "slices.go:528", after := #[], guard := none }) (v := .int .i64 (k : Int)) rfl (by kernel_rfl) (by kernel_rfl) (by kernel_rfl) (fun _ _ _ h => h) (Or.inl ⟨by rfl, fun w0 hSw => by (go_simp)⟩) hH ?_
      simp only [Act.put, List.setIfInBounds_toArray, List.set_cons_zero, List.set_cons_succ]
      refine wpAnyH_take (i := 3) (oi := { dst := some 41, op := Op.slice 24 (Operand.tmp 39) (some (Operand.tmp 40)) none none, type := 24, pos := "slices.go:528", after := #[{ on := 1, ground := Ground.data }, { on := 2, ground := Ground.data }], guard := none }) (v := .slice (some ⟨g, k * 4, none⟩) (n - k) (n - k)) rfl (by kernel_rfl) (by kernel_rfl) (by kernel_rfl) (fun _ _ _ h => h) (Or.inl ⟨by rfl, fun w0 hSw => by ((go_simp <;> first | omega | (exact (IntKind.wrap_i64 _).trans (by omega)) | trivial))⟩) hH ?_
      simp only [Act.put, List.setIfInBounds_toArray, List.set_cons_zero, List.set_cons_succ]
      refine wpAnyH_take (i := 4) (oi := { dst := some 42, op := Op.move (Operand.tmp 7), type := 24, pos := "slices.go:528", after := #[], guard := none }) (v := .slice (some ⟨g, 0, none⟩) n n) rfl (by kernel_rfl) (by kernel_rfl) (by kernel_rfl) (fun _ _ _ h => h) (Or.inl ⟨by rfl, fun w0 hSw => by (go_simp)⟩) hH ?_
      simp only [Act.put, List.setIfInBounds_toArray, List.set_cons_zero, List.set_cons_succ]
      refine wpAnyH_take (i := 5) (oi := { dst := some 43, op := Op.move (Operand.tmp 8), type := 3, pos := "slices.go:528", after := #[], guard := none }) (v := .int .i64 (k : Int)) rfl (by kernel_rfl) (by kernel_rfl) (by kernel_rfl) (fun _ _ _ h => h) (Or.inl ⟨by rfl, fun w0 hSw => by (go_simp)⟩) hH ?_
      simp only [Act.put, List.setIfInBounds_toArray, List.set_cons_zero, List.set_cons_succ]
      refine wpAnyH_take (i := 6) (oi := { dst := some 44, op := Op.slice 24 (Operand.tmp 42) none (some (Operand.tmp 43)) none, type := 24, pos := "slices.go:528", after := #[{ on := 4, ground := Ground.data }, { on := 5, ground := Ground.data }], guard := none }) (v := .slice (some ⟨g, 0, none⟩) k n) rfl (by kernel_rfl) (by kernel_rfl) (by kernel_rfl) (fun _ _ _ h => h) (Or.inl ⟨by rfl, fun w0 hSw => by ((go_simp <;> first | omega | (exact (IntKind.wrap_i64 _).trans (by omega)) | trivial))⟩) hH ?_
      simp only [Act.put, List.setIfInBounds_toArray, List.set_cons_zero, List.set_cons_succ]
      refine wpAnyH_ready (rs := [7]) (by kernel_rfl) (by simp) ?_
      refine (AllReadyH.cons (o := { dst := some 45, op := Op.call { callee := Callee.builtin Builtin.copy, args := #[Operand.tmp 41, Operand.tmp 44], argTypes := #[24, 24] }, type := 3, pos := "slices.go:528", after := #[{ on := 3, ground := Ground.data }, { on := 6, ground := Ground.data }], guard := none }) rfl (fun K hK => ?_) AllReadyH.nil)
      refine step_cp _ _ _ _ rfl rfl (.slice (some ⟨g, k * 4, none⟩) (n - k) (n - k)) (.slice (some ⟨g, 0, none⟩) k n) (.int .i64 (m : Int)) (WX.setRow g (rwk E 4 (k + m) n).toArray) (by rfl) (by rfl) HRUN.out ?_
      simp only [Act.put, List.setIfInBounds_toArray, List.set_cons_zero, List.set_cons_succ]
      refine hK.out _ _ trivial (fun hH' => ?_)
      clear hK K
      replace hH := hH'
      clear hH' 
      refine wpAnyH_take (i := 8) (oi := { dst := some 46, op := Op.binOp BinOp.add 3 (Operand.tmp 38) (Operand.tmp 45) 3, type := 3, pos := "slices.go:528", after := #[{ on := 0, ground := Ground.data }, { on := 7, ground := Ground.data }], guard := none }) (v := .int .i64 ((k + m : Nat) : Int)) rfl (by kernel_rfl) (by kernel_rfl) (by kernel_rfl) (fun _ _ _ h => h) (Or.inl ⟨by rfl, fun w0 hSw => by ((go_simp <;> first | omega | (exact (IntKind.wrap_i64 _).trans (by omega)) | trivial))⟩) hH ?_
      simp only [Act.put, List.setIfInBounds_toArray, List.set_cons_zero, List.set_cons_succ]
      refine wpAnyH_take (i := 9) (oi := { dst := some 8, op := Op.assign (Operand.tmp 46), type := 3, pos := "slices.go:528", after := #[{ on := 8, ground := Ground.data }, { on := 7, ground := Ground.chain }, { on := 0, ground := Ground.phase }, { on := 1, ground := Ground.phase }, { on := 2, ground := Ground.phase }, { on := 3, ground := Ground.phase }, { on := 4, ground := Ground.phase }, { on := 5, ground := Ground.phase }, { on := 6, ground := Ground.phase }, { on := 7, ground := Ground.phase }, { on := 8, ground := Ground.phase }], guard := none }) (v := .int .i64 ((k + m : Nat) : Int)) rfl (by kernel_rfl) (by kernel_rfl) (by kernel_rfl) (fun _ _ _ h => h) (Or.inl ⟨by rfl, fun w0 hSw => by (go_simp)⟩) hH ?_
      simp only [Act.put, List.setIfInBounds_toArray, List.set_cons_zero, List.set_cons_succ]
      refine wpAnyH_done (by kernel_rfl) ?_ _
      go_wp2
      go_roundw
      case rel => exact ⟨k + m, by omega, by omega, rfl, HNEW.out⟩
      case measure => simp [intOf]; omega
    · obtain rfl : k = n := by omega
      have i1 : ¬ (k : Int) < (k : Int) := by omega
      obtain ⟨h1, h2⟩ := HR.out
      have hx : rwk E 4 k k = rp E k := by unfold rwk; simp
      rw [hx] at h1
      have hgz : g < wr.heap.size := (Array.getElem?_eq_some_iff.1 h1).1
      have HAT : ∀ i j u, i < k → j < 4 → E[j]? = some u → wr.cell? ⟨g, i * 4 + j, none⟩ = some u := fun i j u hi hj hu => by
        have e := rp_at E k i j hi (by rw [hlen]; exact hj)
        rw [hlen, hu] at e
        simp [World.cell?, h1, e]
      have HFR : ∀ i, wr.frozen? ⟨g, i, none⟩ = false := fun i => by simp [World.frozen?, h1]
      have HANS : Hid (RowH wr g k (fun _ => c.r) (fun _ => c.g) (fun _ => c.b) (fun _ => c.a)) := by
        subst hE
        exact ⟨fun i hi => HAT i 0 _ hi (by omega) rfl, fun i hi => HAT i 1 _ hi (by omega) rfl, fun i hi => HAT i 2 _ hi (by omega) rfl, fun i hi => HAT i 3 _ hi (by omega) rfl, HFR, hgz⟩
      have HB := Hid.mk h2
      clear HAT HFR h1 h2 hx hE hlen hone hrl
      go_wp2
      go_ret
      exact ⟨g, rfl, by have := HGD.out; omega, HANS.out, HB.out⟩
set_option maxRecDepth 100000 in
set_option maxHeartbeats 4000000 in
theorem prepI (y : Int) (p cp n : Nat) (w : World) (Y : w.cell? ⟨p, 0, none⟩ = some (.int .i64 y)) (n1 : 1 ≤ n) (n2 : n ≤ 576) : Calls Try.prog 20 #[.slice (some ⟨p, 0, none⟩) 1 cp, .int .i64 (n : Int)] w fun e w' => ∃ g, e = .returned (.slice (some ⟨g, 0, none⟩) n n) ∧ w.heap.size ≤ g ∧ Own w' g n (fun _ => .int .i64 y) ∧ Below w.heap.size w w' := by
  obtain ⟨i0, hi, hz0, hz1, hz2⟩ := info_parts info3
  obtain ⟨E, hE⟩ : ∃ E : List Value, E = [.int .i64 y] := ⟨_, rfl⟩
  have hlen : E.length = 1 := by rw [hE]; rfl
  have hone : ∀ v ∈ E, v.oneCell' = true := by rw [hE]; intro u hu; simp at hu; subst hu; rfl
  have HSRC : Hid (∀ w', Below w.heap.size w w' → ∀ j u, (rp E 1)[j]? = some u → w'.cell? ((⟨p, 0, none⟩ : Addr).add j) = some u) := fun w' b j u hj => by
    rw [rp, rp, List.nil_append, hE] at hj
    match j, hj with
    | 0, hj => simp at hj; subst hj; simpa [Addr.add] using cell_nx Y b
  have HM : Hid (∀ w, Calls Try.prog 35 #[.int .u64 1, .int .u64 (n : Int)] w fun e w' => e = .returned (.tuple #[.int .u64 0, .int .u64 (n : Int)]) ∧ w' = w) := fun w => muln n n2 w
  have eu : IntKind.u64.wrap (n : Int) = (n : Int) := wrap_n n (by omega)
  have ei : IntKind.i64.wrap (n : Int) = (n : Int) := (IntKind.wrap_i64 _).trans (by omega)
  go_enter Try.func20, Try.ntmps20
  go_upto_region 7 with (first | (go_at_call 35; refine (HM.out _).mono ?_; rintro e w2 ⟨rfl, hw⟩; subst w2) | (at_make; refine wpList_make_full _ rfl _ _ 25 rfl w.heap.size 3 i0 (.int .i64 0) 1 Try.underlying25 hi hz0 hz1 _ _ _ _ n rfl rfl (by first | rfl | omega) (by first | rfl | omega) (by rw [hz2]; omega) (by unfold maxLen; omega) (Nat.le_refl _) ?_; intro w1 hown hgrow))
  have HZZ : ∀ i : Nat, (#[.int .i64 0] : Array Value)[i % 1]! = .int .i64 0 := fun i => by
    rw [Nat.mod_one]; rfl
  have hg0 : w1.heap[w.heap.size]? = some (.cells (madeCells #[.int .i64 0] (n * 1)).toList.toArray 3 (0, 0)) := own_heap hown
  rw [made_rwk E _ 1 n HZZ] at hg0
  have B1 : Below w.heap.size w w1 := (Below.refl _ _).grown hgrow (Nat.le_refl _) (by simp)
  obtain ⟨g, hgd⟩ : ∃ g, w.heap.size = g := ⟨_, rfl⟩
  have HGD := Hid.mk hgd
  rw [hgd] at hg0 ⊢
  clear hown hgrow hi hz0 hz1 hz2 hgd
  have hrl : ∀ k, k ≤ n → (rwk E 1 k n).length = n * 1 := fun k hk => by unfold rwk; rw [List.length_append, rp_len, hlen, List.length_replicate, ← Nat.add_mul]; congr 1; omega
  have hr1 := run_copy_s (P := Try.prog) w1 25 25 3 3 1 g 0 n n ⟨p, 0, none⟩ 1 cp (rwk E 1 0 n).toArray 3 (rp E 1) Try.underlying25 (by kernel_rfl) hg0 (by rw [rp_len, hlen]; congr 1; exact (Nat.min_eq_left n1).symm) (HSRC.out w1 B1) (by simp only [List.size_toArray]; rw [hrl 0 (by omega), rp_len, hlen]; omega) (fun v hv => hone v (rp_mem E 1 v hv))
  have ec : (rwk E 1 0 n).toArray.toList.take 0 ++ rp E 1 ++ (rwk E 1 0 n).toArray.toList.drop (0 + (rp E 1).length) = rwk E 1 1 n := by
    have h := rwk_step E 1 0 n 1 hlen (by omega) (by omega)
    simpa using h
  rw [ec, show Nat.min 1 n = 1 from Nat.min_eq_left n1] at hr1
  have HR1 := Hid.mk hr1
  have g1 := setRow_heap w1 g _ (rwk E 1 1 n).toArray _ _ hg0
  have B2 : Below w.heap.size w (w1.setRow g (rwk E 1 1 n).toArray) := below_setRow B1 (by have := HGD.out; omega) _
  clear hr1 ec hg0 B1 HSRC
  have HG1 := Hid.mk (And.intro g1 B2)
  clear g1 B2
  have hr2 : Sem.run Try.prog (Builtin.copy_ #[25, 25] 3 #[.slice (some ⟨g, 0, none⟩) n n, .slice (some ⟨p, 0, none⟩) 1 cp]) w1 = .ok (.int .i64 1) (w1.setRow g (rwk E 1 1 n).toArray) := HR1.out
  obtain ⟨w2, hw2⟩ : ∃ z, w1.setRow g (rwk E 1 1 n).toArray = z := ⟨_, rfl⟩
  rw [hw2] at HG1 hr2
  clear HR1 hw2
  have HR2 := Hid.mk hr2
  clear hr2
  go_wp2_with (refine wpList_cp (.tmp 31) (.tmp 32) 25 25 rfl rfl _ _ _ _ rfl rfl HR2.out ?_)
  go_loopw [8] (fun v wr => ∃ k : Nat, 1 ≤ k ∧ k ≤ n ∧ v = .int .i64 (k : Int) ∧ Hid (wr.heap[g]? = some (.cells (rwk E 1 k n).toArray 3 (0, 0)) ∧ Below w.heap.size w wr)) (fun v _ => n - (intOf v).toNat)
  case atStart => exact ⟨1, Nat.le_refl _, n1, rfl, HG1⟩
  case round =>
    clear HG1
    obtain ⟨k, k1, k2, rfl, HR⟩ := hrel
    by_cases hkn : k < n
    · have i1 : (k : Int) < (n : Int) := by omega
      have i0 : (0 : Int) ≤ (k : Int) := by omega
      have i2 : (k : Int) ≤ (n : Int) := by omega
      obtain ⟨m, hm⟩ : ∃ m, Nat.min k (n - k) = m := ⟨_, rfl⟩
      have m1 : 1 ≤ m ∧ m ≤ k ∧ m ≤ n - k := by
        have h : m = min k (n - k) := hm.symm
        omega
      obtain ⟨ma, mb, mc⟩ := m1
      have HNEW : Hid ((wr.drew.setRow g (rwk E 1 (k + m) n).toArray).heap[g]? = some (.cells (rwk E 1 (k + m) n).toArray 3 (0, 0)) ∧ Below w.heap.size w (wr.drew.setRow g (rwk E 1 (k + m) n).toArray)) := by
        obtain ⟨h1, h2⟩ := HR.out
        exact ⟨setRow_heap wr.drew g _ _ _ _ h1, below_setRow (below_drew h2) (by have := HGD.out; omega) _⟩
      have HRUN : Hid ((Builtin.copy_ #[25, 25] 3 #[.slice (some ⟨g, k * 1, none⟩) (n - k) (n - k), .slice (some ⟨g, 0, none⟩) k n]).run Try.prog wr.drew = .ok (.int .i64 (m : Int)) (wr.drew.setRow g (rwk E 1 (k + m) n).toArray)) := by
        obtain ⟨h1, h2⟩ := HR.out
        have h := run_copy_s (P := Try.prog) wr.drew 25 25 3 3 1 g (k * 1) (n - k) (n - k) ⟨g, 0, none⟩ k n (rwk E 1 k n).toArray 3 (rp E m) Try.underlying25 (by kernel_rfl) h1 (by rw [rp_len, hlen, hm]) (fun j u hj => by
          have hj2 : j < m * 1 := by
            have := (List.getElem?_eq_some_iff.1 hj).1
            rwa [rp_len, hlen] at this
          have e1 : rwk E 1 k n = rp E m ++ (rp E (k - m) ++ List.replicate ((n - k) * 1) (.int .i64 0)) := by
            unfold rwk
            rw [← List.append_assoc, ← rp_add, show m + (k - m) = k by omega]
          have e2 : (rwk E 1 k n)[j]? = some u := by rw [e1, List.getElem?_append_left (by rw [rp_len, hlen]; exact hj2)]; exact hj
          have e3 : (⟨g, 0, none⟩ : Addr).add j = ⟨g, j, none⟩ := by simp [Addr.add]; intro h; exact h.symm
          rw [e3]
          have h3 : wr.drew.heap[g]? = some (.cells (rwk E 1 k n).toArray 3 (0, 0)) := h1
          simp [World.cell?, h3, e2]) (by simp only [List.size_toArray]; rw [hrl k k2, rp_len, hlen, ← Nat.add_mul]; exact Nat.mul_le_mul_right _ (by omega)) (fun v hv => hone v (rp_mem E m v hv))
        rw [hm] at h
        rw [show (rwk E 1 k n).toArray.toList = rwk E 1 k n from rfl, rwk_step E 1 k n m hlen k2 mc] at h
        exact h
      clear HR hone hrl hlen hE hm
      go_wp2
      generalize hWW : wr.drew = WX at HNEW HRUN
      refine wp_region_held_drew (S := fun _ => True) (by kernel_rfl) trivial (fun hH => ?_)
      rw [hWW]
      clear hWW
      refine wpAnyH_take (i := 0) (oi := { dst := some 38, op := Op.move (Operand.tmp 8), type := 3, pos := "slices.go:528", after := #[], guard := none }) (v := .int .i64 (k : Int)) rfl (by kernel_rfl) (by kernel_rfl) (by kernel_rfl) (fun _ _ _ h => h) (Or.inl ⟨by rfl, fun w0 hSw => by (go_simp)⟩) hH ?_
      simp only [Act.put, List.setIfInBounds_toArray, List.set_cons_zero, List.set_cons_succ]
      refine wpAnyH_take (i := 1) (oi := { dst := some 39, op := Op.move (Operand.tmp 7), type := 25, pos := "slices.go:528", after := #[], guard := none }) (v := .slice (some ⟨g, 0, none⟩) n n) rfl (by kernel_rfl) (by kernel_rfl) (by kernel_rfl) (fun _ _ _ h => h) (Or.inl ⟨by rfl, fun w0 hSw => by (go_simp)⟩) hH ?_
      simp only [Act.put, List.setIfInBounds_toArray, List.set_cons_zero, List.set_cons_succ]
      refine wpAnyH_take (i := 2) (oi := { dst := some 40, op := Op.move (Operand.tmp 8), type := 3, pos := "slices.go:528", after := #[], guard := none }) (v := .int .i64 (k : Int)) rfl (by kernel_rfl) (by kernel_rfl) (by kernel_rfl) (fun _ _ _ h => h) (Or.inl ⟨by rfl, fun w0 hSw => by (go_simp)⟩) hH ?_
      simp only [Act.put, List.setIfInBounds_toArray, List.set_cons_zero, List.set_cons_succ]
      refine wpAnyH_take (i := 3) (oi := { dst := some 41, op := Op.slice 25 (Operand.tmp 39) (some (Operand.tmp 40)) none none, type := 25, pos := "slices.go:528", after := #[{ on := 1, ground := Ground.data }, { on := 2, ground := Ground.data }], guard := none }) (v := .slice (some ⟨g, k * 1, none⟩) (n - k) (n - k)) rfl (by kernel_rfl) (by kernel_rfl) (by kernel_rfl) (fun _ _ _ h => h) (Or.inl ⟨by rfl, fun w0 hSw => by ((go_simp <;> first | omega | (exact (IntKind.wrap_i64 _).trans (by omega)) | trivial))⟩) hH ?_
      simp only [Act.put, List.setIfInBounds_toArray, List.set_cons_zero, List.set_cons_succ]
      refine wpAnyH_take (i := 4) (oi := { dst := some 42, op := Op.move (Operand.tmp 7), type := 25, pos := "slices.go:528", after := #[], guard := none }) (v := .slice (some ⟨g, 0, none⟩) n n) rfl (by kernel_rfl) (by kernel_rfl) (by kernel_rfl) (fun _ _ _ h => h) (Or.inl ⟨by rfl, fun w0 hSw => by (go_simp)⟩) hH ?_
      simp only [Act.put, List.setIfInBounds_toArray, List.set_cons_zero, List.set_cons_succ]
      refine wpAnyH_take (i := 5) (oi := { dst := some 43, op := Op.move (Operand.tmp 8), type := 3, pos := "slices.go:528", after := #[], guard := none }) (v := .int .i64 (k : Int)) rfl (by kernel_rfl) (by kernel_rfl) (by kernel_rfl) (fun _ _ _ h => h) (Or.inl ⟨by rfl, fun w0 hSw => by (go_simp)⟩) hH ?_
      simp only [Act.put, List.setIfInBounds_toArray, List.set_cons_zero, List.set_cons_succ]
      refine wpAnyH_take (i := 6) (oi := { dst := some 44, op := Op.slice 25 (Operand.tmp 42) none (some (Operand.tmp 43)) none, type := 25, pos := "slices.go:528", after := #[{ on := 4, ground := Ground.data }, { on := 5, ground := Ground.data }], guard := none }) (v := .slice (some ⟨g, 0, none⟩) k n) rfl (by kernel_rfl) (by kernel_rfl) (by kernel_rfl) (fun _ _ _ h => h) (Or.inl ⟨by rfl, fun w0 hSw => by ((go_simp <;> first | omega | (exact (IntKind.wrap_i64 _).trans (by omega)) | trivial))⟩) hH ?_
      simp only [Act.put, List.setIfInBounds_toArray, List.set_cons_zero, List.set_cons_succ]
      refine wpAnyH_ready (rs := [7]) (by kernel_rfl) (by simp) ?_
      refine (AllReadyH.cons (o := { dst := some 45, op := Op.call { callee := Callee.builtin Builtin.copy, args := #[Operand.tmp 41, Operand.tmp 44], argTypes := #[25, 25] }, type := 3, pos := "slices.go:528", after := #[{ on := 3, ground := Ground.data }, { on := 6, ground := Ground.data }], guard := none }) rfl (fun K hK => ?_) AllReadyH.nil)
      refine step_cp _ _ _ _ rfl rfl (.slice (some ⟨g, k * 1, none⟩) (n - k) (n - k)) (.slice (some ⟨g, 0, none⟩) k n) (.int .i64 (m : Int)) (WX.setRow g (rwk E 1 (k + m) n).toArray) (by rfl) (by rfl) HRUN.out ?_
      simp only [Act.put, List.setIfInBounds_toArray, List.set_cons_zero, List.set_cons_succ]
      refine hK.out _ _ trivial (fun hH' => ?_)
      clear hK K
      replace hH := hH'
      clear hH' 
      refine wpAnyH_take (i := 8) (oi := { dst := some 46, op := Op.binOp BinOp.add 3 (Operand.tmp 38) (Operand.tmp 45) 3, type := 3, pos := "slices.go:528", after := #[{ on := 0, ground := Ground.data }, { on := 7, ground := Ground.data }], guard := none }) (v := .int .i64 ((k + m : Nat) : Int)) rfl (by kernel_rfl) (by kernel_rfl) (by kernel_rfl) (fun _ _ _ h => h) (Or.inl ⟨by rfl, fun w0 hSw => by ((go_simp <;> first | omega | (exact (IntKind.wrap_i64 _).trans (by omega)) | trivial))⟩) hH ?_
      simp only [Act.put, List.setIfInBounds_toArray, List.set_cons_zero, List.set_cons_succ]
      refine wpAnyH_take (i := 9) (oi := { dst := some 8, op := Op.assign (Operand.tmp 46), type := 3, pos := "slices.go:528", after := #[{ on := 8, ground := Ground.data }, { on := 7, ground := Ground.chain }, { on := 0, ground := Ground.phase }, { on := 1, ground := Ground.phase }, { on := 2, ground := Ground.phase }, { on := 3, ground := Ground.phase }, { on := 4, ground := Ground.phase }, { on := 5, ground := Ground.phase }, { on := 6, ground := Ground.phase }, { on := 7, ground := Ground.phase }, { on := 8, ground := Ground.phase }], guard := none }) (v := .int .i64 ((k + m : Nat) : Int)) rfl (by kernel_rfl) (by kernel_rfl) (by kernel_rfl) (fun _ _ _ h => h) (Or.inl ⟨by rfl, fun w0 hSw => by (go_simp)⟩) hH ?_
      simp only [Act.put, List.setIfInBounds_toArray, List.set_cons_zero, List.set_cons_succ]
      refine wpAnyH_done (by kernel_rfl) ?_ _
      go_wp2
      go_roundw
      case rel => exact ⟨k + m, by omega, by omega, rfl, HNEW.out⟩
      case measure => simp [intOf]; omega
    · obtain rfl : k = n := by omega
      have i1 : ¬ (k : Int) < (k : Int) := by omega
      obtain ⟨h1, h2⟩ := HR.out
      have hx : rwk E 1 k k = rp E k := by unfold rwk; simp
      rw [hx] at h1
      have hgz : g < wr.heap.size := (Array.getElem?_eq_some_iff.1 h1).1
      have HAT : ∀ i j u, i < k → j < 1 → E[j]? = some u → wr.cell? ⟨g, i * 1 + j, none⟩ = some u := fun i j u hi hj hu => by
        have e := rp_at E k i j hi (by rw [hlen]; exact hj)
        rw [hlen, hu, Nat.mul_one] at e
        simp [World.cell?, h1, e]
      have HFR : ∀ i, wr.frozen? ⟨g, i, none⟩ = false := fun i => by simp [World.frozen?, h1]
      have HANS : Hid (Own wr g k (fun _ => .int .i64 y)) := by
        subst hE
        exact ⟨fun i hi => by have h := HAT i 0 _ hi (by omega) rfl; simpa using h, HFR, hgz⟩
      have HB := Hid.mk h2
      clear HAT HFR h1 h2 hx hE hlen hone hrl
      go_wp2
      go_ret
      exact ⟨g, rfl, by have := HGD.out; omega, HANS.out, HB.out⟩
set_option maxRecDepth 100000 in
set_option maxHeartbeats 4000000 in
theorem pnew (sw sh : Int) (c : Col) (w : World) : Calls Try.prog 7 #[.int .i64 sw, .int .i64 sh, colV c] w fun e w' => ∃ a, e = .returned (.tuple #[a, .bool (nwB sw sh c)]) ∧ NwA w.heap.size w' a (nwX sw sh sw c) (nwX sw sh sh c) (nwN sw sh c) c ∧ Below w.heap.size w w' := by
  have HS : Hid (∀ w, Calls Try.prog 17 #[.int .i64 sw, .int .i64 sh] w fun e w' => e = .returned (.bool (sdB sw sh)) ∧ w' = w) := fun w => psides sw sh w
  have HG : Hid (∀ w, Calls Try.prog 18 #[.agg #[.int .i64 c.r, .int .i64 c.g, .int .i64 c.b, .int .i64 c.a]] w fun e w' => e = .returned (.bool (kgB c)) ∧ Below w.heap.size w w') := fun w => good13 c.r c.g c.b c.a w
  have HAL : Hid (∀ w', Below ((w.alloc (.cells #[.int .i64 c.r, .int .i64 c.g, .int .i64 c.b, .int .i64 c.a] 30)).alloc (.cells #[.int .i64 0, .int .i64 0, .slice none 0 0, .slice none 0 0] 27)).heap.size ((w.alloc (.cells #[.int .i64 c.r, .int .i64 c.g, .int .i64 c.b, .int .i64 c.a] 30)).alloc (.cells #[.int .i64 0, .int .i64 0, .slice none 0 0, .slice none 0 0] 27)) w' → C4 w' w.heap.size (.int .i64 c.r) (.int .i64 c.g) (.int .i64 c.b) (.int .i64 c.a) ∧ C4 w' (w.heap.size + 1) (.int .i64 0) (.int .i64 0) (.slice none 0 0) (.slice none 0 0) ∧ Below w.heap.size w w') := fun w' b => ⟨((C4.new w 30 (.int .i64 c.r) (.int .i64 c.g) (.int .i64 c.b) (.int .i64 c.a)).next (alloc_b (o := (.cells #[.int .i64 0, .int .i64 0, .slice none 0 0, .slice none 0 0] 27)))).next b, by
    have h := (C4.new (w.alloc (.cells #[.int .i64 c.r, .int .i64 c.g, .int .i64 c.b, .int .i64 c.a] 30)) 27 (.int .i64 0) (.int .i64 0) (.slice none 0 0) (.slice none 0 0)).next b
    rwa [World.size_alloc] at h, (b2_ (o1 := (.cells #[.int .i64 c.r, .int .i64 c.g, .int .i64 c.b, .int .i64 c.a] 30)) (o2 := (.cells #[.int .i64 0, .int .i64 0, .slice none 0 0, .slice none 0 0] 27))).trans (b.mono (b2_ (o1 := (.cells #[.int .i64 c.r, .int .i64 c.g, .int .i64 c.b, .int .i64 c.a] 30)) (o2 := (.cells #[.int .i64 0, .int .i64 0, .slice none 0 0, .slice none 0 0] 27))).size)⟩
  obtain ⟨V0, hV0⟩ : ∃ z, ((w.alloc (.cells #[.int .i64 c.r, .int .i64 c.g, .int .i64 c.b, .int .i64 c.a] 30)).alloc (.cells #[.int .i64 0, .int .i64 0, .slice none 0 0, .slice none 0 0] 27)) = z := ⟨_, rfl⟩
  have HV0 := Hid.mk hV0
  rw [hV0] at HAL
  clear hV0
  obtain ⟨K0, D0, BX0⟩ := HAL.out V0 (Below.refl _ _)
  unfold colV
  cases hs : sdB sw sh
  · have hn : nwB sw sh c = false := by unfold nwB; rw [hs]; rfl
    unfold nwN nwX
    rw [hn, if_neg (by decide), if_neg (by decide), if_neg (by decide)]
    rw [hs] at HS
    have k0 := K0.c0
    have k1 := K0.c1
    have k2 := K0.c2
    have k3 := K0.c3
    have x0 := D0.c0
    have x1 := D0.c1
    have x2 := D0.c2
    have x3 := D0.c3
    have xf := D0.f
    go_enter Try.func7, Try.ntmps7
    go_upto_region 1 with fail
    rw [HV0.out]
    clear HV0
    go_wp2_with (go_at_call 17; refine (HS.out _).mono ?_; rintro e9 w9 ⟨rfl, hw⟩; subst w9)
    clear x0 x1 x2 x3 xf
    have D6 := D0.put (.int .i64 0) (.int .i64 0) (.slice none 0 0) (.slice none 0 0)
    have B06 : Below w.heap.size w (set4 V0 (w.heap.size + 1) (.int .i64 0) (.int .i64 0) (.slice none 0 0) (.slice none 0 0)) := BX0.trans ((only_set4 V0 (w.heap.size + 1) (.int .i64 0) (.int .i64 0) (.slice none 0 0) (.slice none 0 0)).below (by omega) BX0.size)
    unfold set4 at D6 B06
    have r0 := D6.c0
    have r1 := D6.c1
    have r2 := D6.c2
    have r3 := D6.c3
    exact bodyPost_ret (v := .tuple #[.agg #[.int .i64 0, .int .i64 0, .slice none 0 0, .slice none 0 0], .bool false]) (by simp [results, Try.results7, go_sem, r0, r1, r2, r3]) rfl ⟨_, rfl, NwA.none _ _ _, B06⟩
  rw [hs] at HS
  cases hg : kgB c
  · have hn : nwB sw sh c = false := by unfold nwB; rw [hs, hg]; rfl
    unfold nwN nwX
    rw [hn, if_neg (by decide), if_neg (by decide), if_neg (by decide)]
    rw [hg] at HG
    have k0 := K0.c0
    have k1 := K0.c1
    have k2 := K0.c2
    have k3 := K0.c3
    have x0 := D0.c0
    have x1 := D0.c1
    have x2 := D0.c2
    have x3 := D0.c3
    have xf := D0.f
    go_enter Try.func7, Try.ntmps7
    go_upto_region 1 with fail
    rw [HV0.out]
    clear HV0
    go_wp2_with (first | (go_at_call 17; refine (HS.out _).mono ?_; rintro e9 w9 ⟨rfl, hw⟩; subst w9) | (go_at_call 18; refine (HG.out _).mono ?_; rintro e9 w2 ⟨rfl, B2⟩; (obtain ⟨K2, D2, BX2⟩ := HAL.out w2 B2); (have k0 := K2.c0); (have k1 := K2.c1); (have k2 := K2.c2); (have k3 := K2.c3); (have x0 := D2.c0); (have x1 := D2.c1); (have x2 := D2.c2); (have x3 := D2.c3); (have xf := D2.f)))
    clear x0 x1 x2 x3 xf
    have D6 := D2.put (.int .i64 0) (.int .i64 0) (.slice none 0 0) (.slice none 0 0)
    have B06 : Below w.heap.size w (set4 w2 (w.heap.size + 1) (.int .i64 0) (.int .i64 0) (.slice none 0 0) (.slice none 0 0)) := BX2.trans ((only_set4 w2 (w.heap.size + 1) (.int .i64 0) (.int .i64 0) (.slice none 0 0) (.slice none 0 0)).below (by omega) BX2.size)
    unfold set4 at D6 B06
    have r0 := D6.c0
    have r1 := D6.c1
    have r2 := D6.c2
    have r3 := D6.c3
    exact bodyPost_ret (v := .tuple #[.agg #[.int .i64 0, .int .i64 0, .slice none 0 0, .slice none 0 0], .bool false]) (by simp [results, Try.results7, go_sem, r0, r1, r2, r3]) rfl ⟨_, rfl, NwA.none _ _ _, B06⟩
  rw [hg] at HG
  have hn : nwB sw sh c = true := by unfold nwB; rw [hs, hg]; rfl
  unfold nwN nwX
  rw [hn, if_pos rfl, if_pos rfl, if_pos rfl]
  obtain ⟨b0, b1⟩ := area_bnd hs
  obtain ⟨P, hP⟩ : ∃ z, sw * sh = z := ⟨_, rfl⟩
  rw [hP] at b0 b1 ⊢
  have hPw : IntKind.i64.wrap P = P := (IntKind.wrap_i64 _).trans (by omega)
  obtain ⟨n, hPn⟩ : ∃ n : Nat, P = (n : Int) := ⟨P.toNat, by omega⟩
  subst hPn
  rw [show ((n : Int)).toNat = n by omega]
  have n1 : 1 ≤ n := by omega
  have n2 : n ≤ 576 := by omega
  clear hn hs hg
  have HRK : Hid (∀ (w' : World) p cp, C4 w' p (.int .i64 c.r) (.int .i64 c.g) (.int .i64 c.b) (.int .i64 c.a) → Calls Try.prog 19 #[.slice (some ⟨p, 0, none⟩) 1 cp, .int .i64 (n : Int)] w' fun e w'' => ∃ g, e = .returned (.slice (some ⟨g, 0, none⟩) n n) ∧ w'.heap.size ≤ g ∧ RowH w'' g n (fun _ => c.r) (fun _ => c.g) (fun _ => c.b) (fun _ => c.a) ∧ Below w'.heap.size w' w'') := fun w' p cp Y => prepK c p cp n w' Y n1 n2
  have HRI : Hid (∀ (w' : World) p cp, w'.cell? ⟨p, 0, none⟩ = some (.int .i64 65536) → Calls Try.prog 20 #[.slice (some ⟨p, 0, none⟩) 1 cp, .int .i64 (n : Int)] w' fun e w'' => ∃ g, e = .returned (.slice (some ⟨g, 0, none⟩) n n) ∧ w'.heap.size ≤ g ∧ Own w'' g n (fun _ => .int .i64 65536) ∧ Below w'.heap.size w' w'') := fun w' p cp Y => prepI 65536 p cp n w' Y n1 n2
  have HYI : Hid (∀ w' : World, (w'.alloc (.cells #[.int .i64 65536] 3)).cell? ⟨w'.heap.size, 0, none⟩ = some (.int .i64 65536)) := fun w' => by simp
  have k0 := K0.c0
  have k1 := K0.c1
  have k2 := K0.c2
  have k3 := K0.c3
  go_enter Try.func7, Try.ntmps7
  go_upto_region 1 with fail
  rw [HV0.out]
  clear HV0
  go_wp2_with (first
    | (go_at_call 17; refine (HS.out _).mono ?_; rintro e9 w9 ⟨rfl, hw⟩; subst w9)
    | (go_at_call 18; refine (HG.out _).mono ?_; rintro e9 w2 ⟨rfl, B2⟩; (obtain ⟨K2, D2, BX2⟩ := HAL.out w2 B2); (have YC := Hid.mk (C4.new w2 30 (.int .i64 c.r) (.int .i64 c.g) (.int .i64 c.b) (.int .i64 c.a))); (have k0 := K2.c0); (have k1 := K2.c1); (have k2 := K2.c2); (have k3 := K2.c3))
    | (go_at_call 19; refine (HRK.out _ _ _ YC.out).mono ?_; rintro e9 w3 ⟨g1, rfl, hg1, R3, B3⟩; (have D3 := (D2.next (alloc_b (o := (.cells #[.int .i64 c.r, .int .i64 c.g, .int .i64 c.b, .int .i64 c.a] 30)))).next B3); (have BX3 := (BX2.alloc BX2.size (.cells #[.int .i64 c.r, .int .i64 c.g, .int .i64 c.b, .int .i64 c.a] 30)).trans (B3.mono (BX2.alloc BX2.size (.cells #[.int .i64 c.r, .int .i64 c.g, .int .i64 c.b, .int .i64 c.a] 30)).size)); (have l1 := R3.hi); (have s1 : w.heap.size + 1 < g1 := by have := D2.hi; simp at hg1; omega); (have R3 := Hid.mk R3))
    | (go_at_call 20; refine (HRI.out _ _ _ (HYI.out _)).mono ?_; rintro e9 w4 ⟨g2, rfl, hg2, I4, B4⟩; (have D4 := (D3.next (alloc_b (o := (.cells #[.int .i64 65536] 3)))).next B4); (have R4 := Hid.mk ((R3.out.next (alloc_b (o := (.cells #[.int .i64 65536] 3)))).next B4)); (have BX4 := (BX3.alloc BX3.size (.cells #[.int .i64 65536] 3)).trans (B4.mono (BX3.alloc BX3.size (.cells #[.int .i64 65536] 3)).size)); (have l2 := I4.hi); (have s2 : g1 < g2 := by simp at hg2; omega); (have I4 := Hid.mk I4); (have x0 := D4.c0); (have x1 := D4.c1); (have x2 := D4.c2); (have x3 := D4.c3); (have xf := D4.f)))
  clear x0 x1 x2 x3 xf
  have O9 := only_set4 w4 (w.heap.size + 1) (.int .i64 sw) (.int .i64 sh) (.slice (some ⟨g1, 0, none⟩) n n) (.slice (some ⟨g2, 0, none⟩) n n)
  have D9 := D4.put (.int .i64 sw) (.int .i64 sh) (.slice (some ⟨g1, 0, none⟩) n n) (.slice (some ⟨g2, 0, none⟩) n n)
  have R9 := R4.out.but O9 (by omega)
  have I9 := I4.out.but O9 (by omega)
  have B9 : Below w.heap.size w _ := BX4.trans (O9.below (by omega) BX4.size)
  have S9 := O9.size
  have l3 := R4.out.hi
  unfold set4 at D9 R9 I9 B9 S9
  have r0 := D9.c0
  have r1 := D9.c1
  have r2 := D9.c2
  have r3 := D9.c3
  exact bodyPost_ret (v := .tuple #[.agg #[.int .i64 sw, .int .i64 sh, .slice (some ⟨g1, 0, none⟩) n n, .slice (some ⟨g2, 0, none⟩) n n], .bool true]) (by simp [results, Try.results7, go_sem, r0, r1, r2, r3]) rfl ⟨_, rfl, ⟨_, _, rfl, Or.inr ⟨g1, n, rfl, R9⟩, Or.inr ⟨g2, n, rfl, I9⟩, fun q hq => by simp [Value.ownBlock] at hq; subst hq; exact ⟨by omega, Nat.lt_of_lt_of_le l3 S9⟩, fun q hq => by simp [Value.ownBlock] at hq; subst hq; exact ⟨by omega, Nat.lt_of_lt_of_le l2 S9⟩, fun q hq e2 => by simp [Value.ownBlock] at hq e2; omega⟩, B9⟩
end Go.Proofs.Ytkngjngmalogaaa
