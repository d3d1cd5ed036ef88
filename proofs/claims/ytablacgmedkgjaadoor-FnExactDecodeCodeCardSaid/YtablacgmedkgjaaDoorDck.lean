/- The program's DecodeCode; conditions: at most 2^20 bytes, the data stand in memory, the table of calls holds its names and numbers. -/
import Derived.Test.YtablacgmedkgjaaDoorDcj
import Derived.Test.YtablacgmedkgjaaDoorEni
import Derived.Test.YtablacgmedkgjaaDoorShelf
namespace Go.Proofs.YtablacgmedkgjaaDoor
open Go.ChangeShapes Go.WideShapes Go.ChangeAt Go.RowKit
set_option linter.unusedVariables false
/-- The cells of the first n instructions, one behind the other. -/
def cellsP (O D A B C X : Nat → Int) : Nat → List Value
  | 0 => []
  | n + 1 => cellsP O D A B C X n ++ [.int .i64 (O n), .int .i64 (D n), .int .i64 (A n), .int .i64 (B n), .int .i64 (C n), .int .u32 (X n)]
theorem cellsP_len (O D A B C X : Nat → Int) : ∀ n, (cellsP O D A B C X n).length = n * 6
  | 0 => rfl
  | n + 1 => by rw [cellsP, List.length_append, cellsP_len O D A B C X n]; simp; omega
theorem cellsP_at (O D A B C X : Nat → Int) : ∀ (n i j : Nat), i < n → j < 6 → (cellsP O D A B C X n)[i * 6 + j]? = ([.int .i64 (O i), .int .i64 (D i), .int .i64 (A i), .int .i64 (B i), .int .i64 (C i), .int .u32 (X i)] : List Value)[j]?
  | 0, i, j, hi, hj => by omega
  | n + 1, i, j, hi, hj => by
    have hl := cellsP_len O D A B C X n
    rw [cellsP]
    by_cases e : i = n
    · subst e
      rw [List.getElem?_append_right (by omega), hl, show i * 6 + j - i * 6 = j by omega]
    · rw [List.getElem?_append_left (by omega)]
      exact cellsP_at O D A B C X n i j (by omega) hj
theorem rowI_of {w : World} {B' g n cap : Nat} {O D A B C X : Nat → Int} (h : w.ownsRow B' 35 6 (.slice (some ⟨g, 0, none⟩) n cap) n (cellsP O D A B C X n)) : RowI w g n O D A B C X := by
  have k := fun (i j : Nat) (hi : i < n) (hj : j < 6) => (h.cellAt (i * 6 + j) (by omega)).trans (cellsP_at O D A B C X n i j hi hj)
  exact ⟨fun i hi => k i 0 hi (by omega), fun i hi => k i 1 hi (by omega), fun i hi => k i 2 hi (by omega), fun i hi => k i 3 hi (by omega), fun i hi => k i 4 hi (by omega), fun i hi => k i 5 hi (by omega), fun i => h.frozenAt i, (h.lt _ rfl).2⟩
def dl (f : Nat → Int) (N : Nat) : List Int := (List.range N).map f
def cnt (s : Nat → Int) : Nat := (num s 4 2).toNat
def gdP (s : Nat → Int) (n : Nat) : Bool := goodC (pO s) (pF s 0) (pF s 1) (pF s 2) (pF s 3) (pF s 4) n
def enP (s : Nat → Int) (n : Nat) : List Int := encB (pO s) (pF s 0) (pF s 1) (pF s 2) (pF s 3) (pF s 4) n
def decOk (f : Nat → Int) (N : Nat) : Bool := decide (cnt (fz f N) ≤ 600) && (gdP (fz f N) (cnt (fz f N)) && decide (enP (fz f N) (cnt (fz f N)) = dl f N))
theorem wds_p {s : Nat → Int} (h : Bt s) (n : Nat) : Wds (pF s 4) n := fun i _ => pvl_range h _ _ _
theorem bytesOf_inj : ∀ (a b : List Int), Byts a → Byts b → (Lib.bytesOf a == Lib.bytesOf b) = decide (a = b)
  | [], [], _, _ => by simp [Lib.bytesOf]
  | [], y :: b, _, _ => by simp [Lib.bytesOf]
  | x :: a, [], _, _ => by simp [Lib.bytesOf]
  | x :: a, y :: b, ha, hb => by
    have ih := bytesOf_inj a b (fun z hz => ha z (by simp [hz])) (fun z hz => hb z (by simp [hz]))
    have hx := ha x (by simp)
    have hy := hb y (by simp)
    have e : (UInt8.ofNat x.toNat == UInt8.ofNat y.toNat) = decide (x = y) := by
      rw [Bool.eq_iff_iff]
      simp only [beq_iff_eq, decide_eq_true_eq]
      constructor
      · intro h
        have := congrArg UInt8.toNat h
        simp at this
        omega
      · intro h; rw [h]
    show (List.cons (UInt8.ofNat x.toNat) (Lib.bytesOf a) == List.cons (UInt8.ofNat y.toNat) (Lib.bytesOf b)) = _
    rw [List.cons_beq_cons, e, ih, Bool.eq_iff_iff]
    simp
theorem byts_enP {s : Nat → Int} {n : Nat} (h : gdP s n = true) : Byts (enP s n) := by
  unfold enP encB
  exact (byts_code _ _ _ _ _ _ n (goodC_bds h).2.2 n (Nat.le_refl _)).app (byts_lows _ _)
theorem byts_dl {f : Nat → Int} (hf : ∀ i, 0 ≤ f i ∧ f i < 256) (N : Nat) : Byts (dl f N) := fun x hx => by
  unfold dl at hx
  obtain ⟨i, _, rfl⟩ := List.mem_map.1 hx
  exact hf i
theorem info35 : (Tryd.prog.info? 35).map (fun i => (i.zero, i.size, i.bytes)) = some (some (.agg #[.int .i64 0, .int .i64 0, .int .i64 0, .int .i64 0, .int .i64 0, .int .u32 0]), 6, 48) := by kernel_rfl
set_option maxRecDepth 100000 in
set_option maxHeartbeats 2000000 in
theorem good11_nil (w : World) : Calls Tryd.prog 12 #[.slice none 0 0] w fun e w' => e = .returned (.bool false) ∧ Below w.heap.size w w' := by
  go_enter Tryd.func12, Tryd.ntmps12
  go_wp2
  go_ret
  exact ⟨rfl, (Below.refl _ _).alloc (Nat.le_refl _) _⟩
set_option maxRecDepth 100000 in
set_option maxHeartbeats 2000000 in
theorem enc22_nil (w : World) : Calls Tryd.prog 23 #[.slice none 0 0] w fun e w' => e = .returned (.tuple #[.slice none 0 0, .bool false]) ∧ Below w.heap.size w w' := by
  have h := good11_nil w
  go_enter Tryd.func23, Tryd.ntmps23
  go_wp2_with (go_at_call 12; refine h.mono ?_; rintro e w1 ⟨rfl, B1⟩)
  go_ret2
  exact ⟨rfl, B1⟩
/-- What DecodeCode answers, both sides. -/
def SaysD (w : World) (f : Nat → Int) (N : Nat) (e : Ending) (w' : World) : Prop :=
  ∃ v, e = .returned (.tuple #[v, .bool (decOk f N)]) ∧ RowIV w' v (if decOk f N then cnt (fz f N) else 0) (pO (fz f N)) (pF (fz f N) 0) (pF (fz f N) 1) (pF (fz f N) 2) (pF (fz f N) 3) (pF (fz f N) 4) ∧ (∀ g, v.ownBlock = some g → w.heap.size ≤ g) ∧ Below w.heap.size w w'
theorem saysD_no {w w' : World} {f : Nat → Int} {N : Nat} (h : decOk f N = false) (b : Below w.heap.size w w') : SaysD w f N (.returned (.tuple #[.slice none 0 0, .bool false])) w' := by
  refine ⟨_, by rw [h], Or.inl ⟨by rw [h]; rfl, rfl⟩, fun g hg => by simp [Value.ownBlock] at hg, b⟩
set_option maxRecDepth 100000 in
set_option maxHeartbeats 8000000 in
theorem dec29 (g N : Nat) (f : Nat → Int) (w : World) (G : Forms w) (O : Own w g N (fun i => .int .u8 (f i))) (hf : ∀ i, 0 ≤ f i ∧ f i < 256) (hN : N ≤ 1048576) : Calls Tryd.prog 30 #[.slice (some ⟨g, 0, none⟩) N N] w (SaysD w f N) := by
  obtain ⟨i5, hi5, hz50, hz51, hz52⟩ := info_parts info35
  have gl := O.hi
  have B0 : Below w.heap.size w (w.alloc (.cells #[.slice (some ⟨g, 0, none⟩) N N] 68)) := (Below.refl _ _).alloc (Nat.le_refl _) _
  have R0 : Rdr (w.alloc (.cells #[.slice (some ⟨g, 0, none⟩) N N] 68)) w.heap.size g f N 0 := by
    refine ⟨⟨0, N, ?_, fun _ => rfl, by omega⟩, ?_, fun i hi => (B0.cell (p := ⟨g, i, none⟩) gl).trans (O.cell i hi), by omega, by simp; omega⟩
    · rw [World.cell?_alloc_mark]; rfl
    · rw [World.frozen?_alloc_mark]; simp
  have HTk : Hid (∀ (p W : Nat) (v : World), Rdr v w.heap.size g f N p → W ≤ 4 → Calls Tryd.prog 53 #[.pointer (some ⟨w.heap.size, 0, none⟩), .int .i64 (W : Int)] v fun e w' => e = .returned (.int .i64 (num (fz f N) p W)) ∧ Rdr w' w.heap.size g f N (p + W) ∧ Only w.heap.size v w') := fun p W v R hW => take48 w.heap.size g N p W f v R hf hN hW
  have HIn : Hid (∀ (p : Nat) (v : World), Rdr v w.heap.size g f N p → Calls Tryd.prog 54 #[.pointer (some ⟨w.heap.size, 0, none⟩)] v fun e w' => e = .returned (.agg #[.int .i64 (fz f N p), .int .i64 (pvl (fz f N) (fz f N p) p 0), .int .i64 (pvl (fz f N) (fz f N p) p 1), .int .i64 (pvl (fz f N) (fz f N p) p 2), .int .i64 (pvl (fz f N) (fz f N p) p 3), .int .u32 (pvl (fz f N) (fz f N p) p 4)]) ∧ Rdr w' w.heap.size g f N (qs (fz f N p) p 5) ∧ Only w.heap.size v w') := fun p v R => instr49 w.heap.size g N p f v R hf hN
  have H4 : Hid (Calls Tryd.prog 53 #[.pointer (some ⟨w.heap.size, 0, none⟩), .int .i64 4] (w.alloc (.cells #[.slice (some ⟨g, 0, none⟩) N N] 68)) fun e w' => e = .returned (.int .i64 (num (fz f N) 0 4)) ∧ Rdr w' w.heap.size g f N 4 ∧ Only w.heap.size (w.alloc (.cells #[.slice (some ⟨g, 0, none⟩) N N] 68)) w') := HTk.out 0 4 _ R0 (by decide)
  have HFm : Hid (∀ v, Below w.heap.size w v → Forms v) := fun v b => G.below b
  have HOw : Hid (Own w g N (fun i => .int .u8 (f i))) := O
  have HBF : Hid (Below w.heap.size w (w.alloc (.cells #[.slice (some ⟨g, 0, none⟩) N N] 68))) := B0
  have HSt : Hid (Bt (fz f N)) := fz_bt hf
  have HOk : Hid (decOk f N = (decide (cnt (fz f N) ≤ 600) && (gdP (fz f N) (cnt (fz f N)) && decide (enP (fz f N) (cnt (fz f N)) = dl f N)))) := rfl
  have HBy : Hid (Byts (dl f N)) := byts_dl hf N
  have HCn : Hid (num (fz f N) 4 2 = (cnt (fz f N) : Int)) := by
    have := (num_range HSt.out 2 4 (by decide)).1
    show _ = _
    unfold cnt
    omega
  clear R0 B0 G O hf
  go_enter Tryd.func30, Tryd.ntmps30
  go_wp2_with (first | (go_at_call 53; (with_reducible show Calls Tryd.prog 53 #[_, .int .i64 4] _ _); refine H4.out.mono ?_; rintro e w1 ⟨rfl, R1, O1⟩) | (go_at_call 53; (with_reducible show Calls Tryd.prog 53 #[_, .int .i64 2] w1 _); refine (show Calls Tryd.prog 53 #[.pointer (some ⟨w.heap.size, 0, none⟩), .int .i64 2] w1 (fun e w' => e = .returned (.int .i64 (cnt (fz f N) : Int)) ∧ Rdr w' w.heap.size g f N 6 ∧ Only w.heap.size w1 w') from by rw [← HCn.out]; exact HTk.out 4 2 w1 R1 (by decide)).mono ?_; rintro e w2 ⟨rfl, R2, O2⟩))
  all_goals
    have B1 : Below w.heap.size (w.alloc (.cells #[.slice (some ⟨g, 0, none⟩) N N] 68)) w1 := O1.below (Nat.le_refl _) (by simp)
    have z1 := B1.size
    have z1' : w.heap.size < w1.heap.size := R1.lt
    have B2 : Below w.heap.size w1 w2 := O2.below (Nat.le_refl _) (by omega)
    have BB : Below w.heap.size w w2 := (HBF.out.trans (B1.mono (Nat.le_refl _))).trans (B2.mono (Nat.le_refl _))
  · go_ret2
    exact saysD_no (by rw [HOk.out, decide_eq_false (by omega)]; rfl) BB
  have HNo : Hid (∀ w', Below w.heap.size w w' → gdP (fz f N) (cnt (fz f N)) = false → SaysD w f N (.returned (.tuple #[.slice none 0 0, .bool false])) w') := fun w' b h => saysD_no (by rw [HOk.out, h]; simp) b
  have HNo2 : Hid (∀ w', Below w.heap.size w w' → ¬ enP (fz f N) (cnt (fz f N)) = dl f N → SaysD w f N (.returned (.tuple #[.slice none 0 0, .bool false])) w') := fun w' b h => saysD_no (by rw [HOk.out, decide_eq_false h]; simp) b
  have HYs : Hid (∀ v w', cnt (fz f N) ≤ 600 → gdP (fz f N) (cnt (fz f N)) = true → enP (fz f N) (cnt (fz f N)) = dl f N → RowIV w' v (cnt (fz f N)) (pO (fz f N)) (pF (fz f N) 0) (pF (fz f N) 1) (pF (fz f N) 2) (pF (fz f N) 3) (pF (fz f N) 4) → (∀ g, v.ownBlock = some g → w.heap.size ≤ g) → Below w.heap.size w w' → SaysD w f N (.returned (.tuple #[v, .bool true])) w') := fun v w' h0 h1 h2 R hg b => by
    have e : decOk f N = true := by rw [HOk.out, h1, decide_eq_true h0, decide_eq_true h2]; rfl
    exact ⟨v, by rw [e], by rw [e]; exact R, hg, b⟩
  obtain ⟨s, hs⟩ : ∃ s, fz f N = s := ⟨_, rfl⟩
  rw [hs] at HIn HSt HNo HNo2 HYs ⊢
  have h600 : ¬ (600 : Int) < (cnt s : Int) := by rw [← hs]; omega
  obtain ⟨n, hn⟩ : ∃ n, cnt s = n := ⟨_, rfl⟩
  rw [hn] at HNo HNo2 HYs h600 ⊢
  have n600 : n ≤ 600 := by omega
  have HR2 : Hid (Rdr w2 w.heap.size g f N (pp s 0)) := R2
  have zr : w.heap.size + 1 ≤ w2.heap.size := by have := R2.lt; omega
  have HI2 : Hid (∀ (k : Nat) (v : World), Rdr v w.heap.size g f N (pp s k) → Calls Tryd.prog 54 #[.pointer (some ⟨w.heap.size, 0, none⟩)] v fun e w' => e = .returned (.agg #[.int .i64 (pO s k), .int .i64 (pF s 0 k), .int .i64 (pF s 1 k), .int .i64 (pF s 2 k), .int .i64 (pF s 3 k), .int .u32 (pF s 4 k)]) ∧ Rdr w' w.heap.size g f N (pp s (k + 1)) ∧ Only w.heap.size v w') := fun k v R => HIn.out (pp s k) v R
  clear B1 B2 O1 O2 R1 R2 H4 HTk HIn HCn HOk z1 z1' hs hn HBF
  go_loopw [6, 19] (fun vv i wx => ∃ (k : Nat) (u : Value), k ≤ n ∧ i = .int .i64 k ∧ u = vv ∧ Hid (Rdr wx w.heap.size g f N (pp s k)) ∧ Hid (wx.ownsRow (w.heap.size + 1) 35 6 u k (cellsP (pO s) (pF s 0) (pF s 1) (pF s 2) (pF s 3) (pF s 4) k)) ∧ Hid (k = 0 → u = .slice none 0 0) ∧ Hid (w.heap.size + 1 ≤ wx.heap.size) ∧ Below w.heap.size w wx) (fun _ i _ => n - (intOf i).toNat)
  case atStart => exact ⟨0, .slice none 0 0, by omega, rfl, rfl, HR2, World.ownsRow_nil _ _ _ _, fun _ => rfl, zr, BB⟩
  case round =>
    obtain ⟨k, u, hk, rfl, rfl, HR, HU, HZ, HS1, BK⟩ := hrel
    clear HR2 BB zr
    by_cases hkn : k < n
    · have i1 : (k : Int) < (n : Int) := by omega
      have H49 := HI2.out k _ HR.out
      have HCS : Hid (cellsP (pO s) (pF s 0) (pF s 1) (pF s 2) (pF s 3) (pF s 4) (k + 1) = cellsP (pO s) (pF s 0) (pF s 1) (pF s 2) (pF s 3) (pF s 4) k ++ [.int .i64 (pO s k), .int .i64 (pF s 0 k), .int .i64 (pF s 1 k), .int .i64 (pF s 2 k), .int .i64 (pF s 3 k), .int .u32 (pF s 4 k)]) := rfl
      have hne : u.ownBlock ≠ some w.heap.size := fun e => by have := (HU.out.lt _ e).1; omega
      generalize cellsP (pO s) (pF s 0) (pF s 1) (pF s 2) (pF s 3) (pF s 4) k = E at HU HCS
      go_wp2_with (first | (go_at_call 54; refine H49.mono ?_; rintro e w3 ⟨rfl, R3, O3⟩; (have U3 : w3.ownsRow (w.heap.size + 1) 35 6 u k E := HU.out.kept ⟨O3.os, O3.tape, O3.output, O3.size, fun x hx hq => O3.block x hx (fun e => hq (by rw [e]))⟩ (Or.inr hne))) | (at_builtin; refine wpList_append_lies _ rfl _ _ 25 rfl (w.heap.size + 1) 35 i5 (.agg #[.int .i64 0, .int .i64 0, .int .i64 0, .int .i64 0, .int .i64 0, .int .u32 0]) 6 48 Tryd.underlying25 hi5 hz50 hz51 hz52 rfl (by decide) _ _ _ rfl (U3.alloc _) ⟨w3.heap.size, 0, none⟩ 1 1 [.int .i64 (pO s k), .int .i64 (pF s 0 k), .int .i64 (pF s 1 k), .int .i64 (pF s 2 k), .int .i64 (pF s 3 k), .int .u32 (pF s 4 k)] rfl rfl ?c1 ?c2 (by decide) ?c3 ?c4 ?c5 _ rfl ?_))
      case c1 =>
        intro j x hj
        match j, hj with
        | 0, hj => simp at hj; subst hj; simp [Addr.add]
        | 1, hj => simp at hj; subst hj; simp [Addr.add]
        | 2, hj => simp at hj; subst hj; simp [Addr.add]
        | 3, hj => simp at hj; subst hj; simp [Addr.add]
        | 4, hj => simp at hj; subst hj; simp [Addr.add]
        | 5, hj => simp at hj; subst hj; simp [Addr.add]
        | (j + 6), hj => simp at hj
      case c2 =>
        intro x hx
        simp at hx
        rcases hx with rfl | rfl | rfl | rfl | rfl | rfl <;> rfl
      case c3 => unfold maxLen; omega
      case c4 => omega
      case c5 => have := O3.size; have := HS1.out; simp; omega
      intro g9 cap9 w9 hown hgrow hat hlt
      have z3 := O3.size
      have hs1 := HS1.out
      have G9 : Gro (w3.alloc (.cells #[.int .i64 (pO s k), .int .i64 (pF s 0 k), .int .i64 (pF s 1 k), .int .i64 (pF s 2 k), .int .i64 (pF s 3 k), .int .u32 (pF s 4 k)] 35)) u w9 (.slice (some ⟨g9, 0, none⟩) (k + 1) cap9) := ⟨hgrow, by rcases hat with e | e; exact Or.inl e.symm; exact Or.inr ⟨g9, rfl, by rw [e]; simp⟩⟩
      have B9 : Below (w.heap.size + 1) w3 w9 := ((Below.refl _ _).alloc (by omega) _).trans (G9.below (by simp; omega) (fun g' hg' => (HU.out.lt g' hg').1))
      have hgw : g < w.heap.size + 1 := by omega
      obtain ⟨q3, c3, hr3, hq3, hc3⟩ := R3.rest
      have R9 : Hid (Rdr w9 w.heap.size g f N (pp s (k + 1))) := ⟨⟨q3, c3, (B9.cell (p := ⟨w.heap.size, 0, none⟩) (Nat.lt_succ_self _)).trans hr3, hq3, hc3⟩, (B9.frozen (p := ⟨w.heap.size, 0, none⟩) (Nat.lt_succ_self _)).trans R3.free, fun i hi => (B9.cell (p := ⟨g, i, none⟩) hgw).trans (R3.data i hi), R3.ne, by have := B9.size; have := R3.hg; omega⟩
      have U9 : Hid (w9.ownsRow (w.heap.size + 1) 35 6 (.slice (some ⟨g9, 0, none⟩) (k + 1) cap9) (k + 1) (cellsP (pO s) (pF s 0) (pF s 1) (pF s 2) (pF s 3) (pF s 4) (k + 1))) := by
        show World.ownsRow _ _ _ _ _ _ _
        rw [HCS.out]
        exact hown
      have BW : Hid (Below w.heap.size w w9) := (BK.trans (O3.below (Nat.le_refl _) BK.size)).trans (B9.mono (by omega))
      have Z9 : Hid (w.heap.size + 1 ≤ w9.heap.size) := show w.heap.size + 1 ≤ w9.heap.size by have := B9.size; omega
      clear hown hgrow hat hlt G9 B9 R3 O3 U3 hr3
      go_wp2
      go_roundw
      case rel => exact ⟨k + 1, _, by omega, by go_num, rfl, R9, U9, fun h => by omega, Z9, BW.out⟩
      case measure => simp [intOf]; omega
    · have hkk : k = n := by omega
      subst hkk
      by_cases k0 : k = 0
      · have hu := HZ.out k0
        subst hu
        have HG0 : Hid (gdP s k = false) := by
          show _ = _
          unfold gdP goodC
          rw [decide_eq_false (by omega)]
          rfl
        have h22 := enc22_nil wr
        go_wp2_with (go_at_call 23; refine h22.mono ?_; rintro e w3 ⟨rfl, B3⟩)
        go_ret2
        exact HNo.out _ (BK.trans (B3.mono BK.size)) HG0.out
      obtain ⟨gu, cu, rfl, hgu, hgl⟩ := World.ownsRow.form HU.out (by omega)
      have RI : Hid (RowI wr gu k (pO s) (pF s 0) (pF s 1) (pF s 2) (pF s 3) (pF s 4)) := rowI_of HU.out
      cases hG : gdP s k
      · have h22 : Hid (Calls Tryd.prog 23 #[.slice (some ⟨gu, 0, none⟩) k cu] wr fun e w' => e = .returned (.tuple #[.slice none 0 0, .bool false]) ∧ Below wr.heap.size wr w') := enc22_no k gu cu _ _ _ _ _ _ wr (HFm.out _ BK) RI.out (wds_p HSt.out k) (by omega) hG
        have HG0 : Hid (gdP s k = false) := hG
        clear hG
        go_wp2_with (go_at_call 23; refine h22.out.mono ?_; rintro e w3 ⟨rfl, B3⟩)
        go_ret2
        exact HNo.out _ (BK.trans (B3.mono BK.size)) HG0.out
      · have h22 : Hid (Calls Tryd.prog 23 #[.slice (some ⟨gu, 0, none⟩) k cu] wr fun e w' => ∃ v, e = .returned (.tuple #[v, .bool true]) ∧ Rb wr.heap.size w' v (enP s k) ∧ Below wr.heap.size wr w') := enc22_yes k gu cu _ _ _ _ _ _ wr (HFm.out _ BK) RI.out (wds_p HSt.out k) n600 hG (goodC_bds hG).2.2
        have HG0 : Hid (gdP s k = true) := hG
        have HBE : Hid (Byts (enP s k)) := byts_enP hG
        have HPo : Hid (0 < (enP s k).length) := by show _ < _; unfold enP encB; rw [List.length_append, lows_len]; omega
        have HRV : Hid (∀ w', Below wr.heap.size wr w' → RowIV w' (.slice (some ⟨gu, 0, none⟩) k cu) k (pO s) (pF s 0) (pF s 1) (pF s 2) (pF s 3) (pF s 4)) := fun w' b => Or.inr ⟨gu, cu, rfl, RI.out.next b⟩
        clear hG
        generalize enP s k = E at h22 HBE HPo HNo2 HYs
        have HBI : Hid (∀ w', Below wr.heap.size wr w' → Lib.BytesIn w' (some ⟨g, 0, none⟩) N (dl f N)) := fun w' b hn => ⟨g, 0, rfl, fun i hi => by
          rw [Nat.zero_add]
          refine ((BK.trans (b.mono BK.size)).cell (p := ⟨g, i, none⟩) gl).trans ?_
          rw [HOw.out.cell i hi]
          simp [dl, hi]⟩
        have HLD : Hid ((dl f N).length = N) := by show _ = _; simp [dl]
        have HEq : Hid (∀ w' (gg cc : Nat), Below wr.heap.size wr w' → Rb wr.heap.size w' (.slice (some ⟨gg, 0, none⟩) E.length cc) E → Calls Tryd.prog 55 #[.slice (some ⟨gg, 0, none⟩) E.length cc, .slice (some ⟨g, 0, none⟩) N N] w' fun e w'' => e = .returned (.bool (decide (E = dl f N))) ∧ w'' = w') := fun w' gg cc b r => by
          have h := Tryd.bytes_Equal_all (some ⟨gg, 0, none⟩) (some ⟨g, 0, none⟩) E.length cc N N E (dl f N) w' rfl HLD.out (fun _ => ⟨gg, 0, rfl, fun i hi => by
            rw [Nat.zero_add, r.1.cellAt i (by omega)]
            unfold bl
            rw [List.getElem?_map, List.getD_eq_getElem?_getD, List.getElem?_eq_getElem hi]
            rfl⟩) (HBI.out w' b)
          rw [bytesOf_inj _ _ HBE.out HBy.out] at h
          exact h
        by_cases hE : E = dl f N
        · have HE : Hid (E = dl f N) := hE
          have HEq' : Hid (∀ w' (gg cc : Nat), Below wr.heap.size wr w' → Rb wr.heap.size w' (.slice (some ⟨gg, 0, none⟩) E.length cc) E → Calls Tryd.prog 55 #[.slice (some ⟨gg, 0, none⟩) E.length cc, .slice (some ⟨g, 0, none⟩) N N] w' fun e w'' => e = .returned (.bool true) ∧ w'' = w') := fun w' gg cc b r => by
            have h := HEq.out w' gg cc b r
            rw [decide_eq_true HE.out] at h
            exact h
          clear hE HEq
          go_wp2_with (first | (go_at_call 23; refine h22.out.mono ?_; rintro e w3 ⟨v3, rfl, R3, B3⟩; (obtain ⟨gg, cc, rfl, _, _⟩ := World.ownsRow.form R3.1 HPo.out)) | (go_at_call 55; refine (HEq'.out w3 gg cc B3 R3).mono ?_; rintro e w4 ⟨rfl, hw⟩; subst w4))
          go_ret2
          exact HYs.out _ _ n600 HG0.out HE.out (HRV.out _ B3) (fun g' hg' => by simp [Value.ownBlock] at hg'; omega) (BK.trans (B3.mono BK.size))
        · have HE : Hid (¬ E = dl f N) := hE
          have HEq' : Hid (∀ w' (gg cc : Nat), Below wr.heap.size wr w' → Rb wr.heap.size w' (.slice (some ⟨gg, 0, none⟩) E.length cc) E → Calls Tryd.prog 55 #[.slice (some ⟨gg, 0, none⟩) E.length cc, .slice (some ⟨g, 0, none⟩) N N] w' fun e w'' => e = .returned (.bool false) ∧ w'' = w') := fun w' gg cc b r => by
            have h := HEq.out w' gg cc b r
            rw [decide_eq_false HE.out] at h
            exact h
          clear hE HEq
          go_wp2_with (first | (go_at_call 23; refine h22.out.mono ?_; rintro e w3 ⟨v3, rfl, R3, B3⟩; (obtain ⟨gg, cc, rfl, _, _⟩ := World.ownsRow.form R3.1 HPo.out)) | (go_at_call 55; refine (HEq'.out w3 gg cc B3 R3).mono ?_; rintro e w4 ⟨rfl, hw⟩; subst w4))
          go_ret2
          exact HNo2.out _ (BK.trans (B3.mono BK.size)) HE.out
end Go.Proofs.YtablacgmedkgjaaDoor
