/- Contracts of EncodeCode, the program's and the model's; conditions: the row stands in memory, words within their bounds, the table of calls holds its names and numbers. -/
import Derived.Test.YtablacgmedkgjaaDoorEnm
import Derived.Lib.SlBytesConst
import Derived.Lib.AppendZeros
import Derived.Deep.Onto
namespace Go.Proofs.YtablacgmedkgjaaDoor
open Go.ChangeShapes Go.WideShapes Go.ChangeAt Go.RowKit
set_option linter.unusedVariables false
/-- A list of bytes stands at the head of a block. -/
def NewsAt (w : World) (g : Nat) (L : List Int) : Prop := ∀ (j : Nat) (u : Value), (bl L)[j]? = some u → w.cell? ((⟨g, 0, none⟩ : Addr).add j) = some u
theorem bl_one (L : List Int) : ∀ u ∈ bl L, u.oneCell' = true := fun u hu => by
  unfold bl at hu
  obtain ⟨x, _, rfl⟩ := List.mem_map.1 hu
  rfl
theorem by43 (v : Int) (W : Nat) (w : World) (hW : W = 1 ∨ W = 2 ∨ W = 4) (v0 : 0 ≤ v) (v1 : v < 4294967296) : Calls Tryd.prog 47 #[.int .u32 v, .int .i64 W] w fun e w' => ∃ g c, e = .returned (.slice (some ⟨g, 0, none⟩) W c) ∧ NewsAt w' g (lows v W) ∧ w.heap.size ≤ g ∧ Below w.heap.size w w' := by
  refine (bytes43 v W w hW v0 v1).mono ?_
  rintro e w' ⟨x, rfl, g, c, rfl, O, hg, b⟩
  refine ⟨g, c, rfl, fun j u hj => ?_, hg, b⟩
  unfold bl lows at hj
  rw [List.map_map, List.getElem?_map] at hj
  by_cases h : j < W
  · rw [List.getElem?_eq_getElem (by simpa using h)] at hj
    simp at hj
    subst hj
    rw [add_plain, Nat.zero_add]
    exact O.cell j h
  · rw [List.getElem?_eq_none (by simpa using h)] at hj
    cases hj
theorem lows1 (o : Int) (h0 : 0 ≤ o) (h1 : o < 256) : lows o 1 = [o] := by
  unfold lows byteOf
  simp
  omega
theorem app4 (w : World) (q g c B : Nat) (L : List Int) (hL : L.length = 2) (h : NewsAt w q [75, 79, 68, 49]) (N : NewsAt w g L) (hB : B ≤ w.heap.size) : ∃ K W, (Builtin.append_ #[40, 40] 40 #[.slice (some ⟨q, 0, none⟩) 4 4, .slice (some ⟨g, 0, none⟩) 2 c]).run Tryd.prog w = .ok (.slice (some ⟨w.heap.size, 0, none⟩) 6 K) W ∧ Rb B W (.slice (some ⟨w.heap.size, 0, none⟩) 6 K) ([75, 79, 68, 49] ++ L) ∧ Below w.heap.size w W := by
  obtain ⟨i5, hi5, hz50, hz51, hz52⟩ := info_parts info5
  have hl : (bl L).length = 2 * i5.size := by rw [hz51]; simp [bl, hL]
  have hr := run_append_grow (P := Tryd.prog) w 40 40 5 i5 (.int .u8 0) Tryd.underlying40 hi5 hz50 ⟨q, 0, none⟩ 4 4 (bl [75, 79, 68, 49]) (by rw [hz51]; rfl) h ⟨g, 0, none⟩ 2 c (bl L) hl N (by omega) (by omega) (growslice_fits (by omega) (by rw [hz52]; omega))
  refine ⟨_, _, hr, ⟨⟨?_, .inr ⟨w.heap.size, _, _, ?_, hB, heap_alloc_new w.drew _, (by have := grownCap_ge w 6 4 5; simp [hL]; omega), grownCap_le_maxLen w 6 4 5 (by decide), ?_, ?_⟩⟩, ?_⟩, ?_⟩
  · simp [bl]
  · simp [hL]
  · have := grownCap_ge w 6 4 5
    rw [hz51] at hl
    simp only [Array.size_append, List.size_toArray, size_zeroCells, hl]
    simp [bl, Value.cells]
    omega
  · have e : ([75, 79, 68, 49] ++ L : List Int).length = 6 := by simp [hL]
    rw [e, bl_app]
    simp only [Array.toList_append]
    rw [List.take_append_of_le_length (by simp [bl, hL]), List.take_of_length_le (by simp [bl, hL])]
  · simp; omega
  · exact ⟨rfl, rfl, rfl, by simp, fun k hk => heap_alloc_old w.drew _ hk⟩
set_option maxRecDepth 100000 in
set_option maxHeartbeats 8000000 in
theorem enc22_yes (n a cap : Nat) (O D A B C X : Nat → Int) (w : World) (G : Forms w) (R : RowI w a n O D A B C X) (hX : Wds X n) (hn : n ≤ 600) (hg : goodC O D A B C X n = true) (hb : ∀ k, k < n → Bds (O k) (D k) (A k) (B k) (C k) (X k)) : Calls Tryd.prog 23 #[.slice (some ⟨a, 0, none⟩) n cap] w fun e w' => ∃ v, e = .returned (.tuple #[v, .bool true]) ∧ Rb w.heap.size w' v (encB O D A B C X n) ∧ Below w.heap.size w w' := by
  obtain ⟨i5, hi5, hz50, hz51, hz52⟩ := info_parts info5
  have H11 : Hid (Calls Tryd.prog 12 #[.slice (some ⟨a, 0, none⟩) n cap] w fun e w' => e = .returned (.bool true) ∧ Below w.heap.size w w') := by
    have := good11 n a cap O D A B C X w G R hX (by omega)
    rw [hg] at this
    exact this
  have HR : Hid (RowI w a n O D A B C X) := R
  have HBd : Hid (∀ k, k < n → Bds (O k) (D k) (A k) (B k) (C k) (X k)) := hb
  have H43 : Hid (∀ (v : Int) (W : Nat) (w : World), (W = 1 ∨ W = 2 ∨ W = 4) → 0 ≤ v → v < 4294967296 → Calls Tryd.prog 47 #[.int .u32 v, .int .i64 W] w fun e w' => ∃ g c, e = .returned (.slice (some ⟨g, 0, none⟩) W c) ∧ NewsAt w' g (lows v W) ∧ w.heap.size ≤ g ∧ Below w.heap.size w w') := by43
  have n0 : (0 : Int) ≤ (n : Int) := by omega
  have n1 : (n : Int) < 4294967296 := by omega
  clear R hb hX hg G
  go_enter Tryd.func23, Tryd.ntmps23
  go_upto_region 3 with (go_at_call 12; refine H11.out.mono ?_; rintro e w1 ⟨rfl, B1⟩)
  have hcv := Lib.run_convert_bytes_const (P := Tryd.prog) w1 40 5 #[.int .u8 75, .int .u8 79, .int .u8 68, .int .u8 49] 4 4 Tryd.underlying40 Tryd.underlying5
  have H2 : Hid (Calls Tryd.prog 47 #[.int .u32 (n : Int), .int .i64 2] (w1.alloc (.cells #[.int .u8 75, .int .u8 79, .int .u8 68, .int .u8 49] 5 (4, 5))) fun e w' => ∃ g c, e = .returned (.slice (some ⟨g, 0, none⟩) 2 c) ∧ NewsAt w' g (lows (n : Int) 2) ∧ (w1.alloc (.cells #[.int .u8 75, .int .u8 79, .int .u8 68, .int .u8 49] 5 (4, 5))).heap.size ≤ g ∧ Below (w1.alloc (.cells #[.int .u8 75, .int .u8 79, .int .u8 68, .int .u8 49] 5 (4, 5))).heap.size (w1.alloc (.cells #[.int .u8 75, .int .u8 79, .int .u8 68, .int .u8 49] 5 (4, 5))) w') := H43.out (n : Int) 2 (w1.alloc (.cells #[.int .u8 75, .int .u8 79, .int .u8 68, .int .u8 49] 5 (4, 5))) (by decide) n0 n1
  have B0 : Hid (Below w.heap.size w (w1.alloc (.cells #[.int .u8 75, .int .u8 79, .int .u8 68, .int .u8 49] 5 (4, 5)))) := B1.alloc B1.size _
  have HN4 : Hid (∀ w', Below (w1.alloc (.cells #[.int .u8 75, .int .u8 79, .int .u8 68, .int .u8 49] 5 (4, 5))).heap.size (w1.alloc (.cells #[.int .u8 75, .int .u8 79, .int .u8 68, .int .u8 49] 5 (4, 5))) w' → NewsAt w' w1.heap.size [75, 79, 68, 49]) := fun w' b j u hj => by
    rw [add_plain, Nat.zero_add]
    refine (b.cell (p := ⟨w1.heap.size, j, none⟩) (by simp)).trans ?_
    match j, hj with
    | 0, hj => simp [bl] at hj; subst hj; rw [World.cell?_alloc_mark]; rfl
    | 1, hj => simp [bl] at hj; subst hj; rw [World.cell?_alloc_mark]; rfl
    | 2, hj => simp [bl] at hj; subst hj; rw [World.cell?_alloc_mark]; rfl
    | 3, hj => simp [bl] at hj; subst hj; rw [World.cell?_alloc_mark]; rfl
    | (j + 4), hj => simp [bl] at hj
  clear H11
  go_upto_region 4 with fail
  go_wp2_with (first | (go_at_call 47; refine H2.out.mono ?_; rintro e w2 ⟨g2, c2, rfl, N2, hg2, B2⟩; (obtain ⟨K, w3, hap, R3, B3⟩ := app4 w2 w1.heap.size g2 c2 w.heap.size (lows n 2) (lows_len _ _) (HN4.out w2 B2) N2 (by have := B0.out.size; have := B2.size; omega))) | (at_builtin; refine Lib.wpList_append_run _ rfl _ _ _ _ rfl _ _ rfl rfl _ _ hap ?_))
  have HR1 : Hid (Rb w.heap.size w3 (.slice (some ⟨w2.heap.size, 0, none⟩) 6 K) (codeB O D A B C X n 0)) := R3
  have B3 : Below w.heap.size w w3 := (B0.out.trans (B2.mono B0.out.size)).trans (B3.mono (by have := B0.out.size; have := B2.size; omega))
  clear hcv H2 B0 HN4 N2 hg2 B2 hap R3
  go_loopw [4, 23] (fun vv i wr => ∃ (k : Nat) (u : Value), k ≤ n ∧ i = .int .i64 k ∧ u = vv ∧ Hid (Rb w.heap.size wr u (codeB O D A B C X n k)) ∧ Below w.heap.size w wr) (fun _ i _ => n - (intOf i).toNat)
  case atStart => exact ⟨0, _, by omega, rfl, rfl, HR1, B3⟩
  case round =>
    obtain ⟨k, u, hk, rfl, rfl, HU, BK⟩ := hrel
    clear HR1 B3
    have RK := HR.out.next BK
    by_cases hkn : k < n
    · have i1 : (k : Int) < (n : Int) := by omega
      have i0 : (0 : Int) ≤ (k : Int) := by omega
      have c0 := RK.c0 k hkn
      have c1 := RK.c1 k hkn
      have c2 := RK.c2 k hkn
      have c3 := RK.c3 k hkn
      have c4 := RK.c4 k hkn
      have c5 := RK.c5 k hkn
      obtain ⟨ho, hv⟩ := HBd.out k hkn
      have HV : Hid (∀ j, j < 5 → 0 ≤ val (D k) (A k) (B k) (C k) (X k) j ∧ val (D k) (A k) (B k) (C k) (X k) j < 4294967296) := hv
      have x0 : 0 ≤ X k := (hv 4 (by omega)).1
      have x1 : X k < 4294967296 := (hv 4 (by omega)).2
      have HF : Hid (∀ v, Calls Tryd.prog 48 #[.int .i64 (O k)] v fun e w' => e = .returned (.agg #[.bool (nmd (O k) 0), .bool (nmd (O k) 1), .bool (nmd (O k) 2), .bool (nmd (O k) 3), .bool (nmd (O k) 4)]) ∧ Below v.heap.size v w') := fun v => fields37 (O k) v
      have HV4 : Hid (∀ v, Calls Tryd.prog 49 #[.agg #[.int .i64 (O k), .int .i64 (D k), .int .i64 (A k), .int .i64 (B k), .int .i64 (C k), .int .u32 (X k)]] v fun e w' => e = .returned (.agg #[.int .i64 (D k), .int .i64 (A k), .int .i64 (B k), .int .i64 (C k), .int .i64 (X k)]) ∧ Below v.heap.size v w') := fun v => vals44 (O k) (D k) (A k) (B k) (C k) (X k) v x0 x1
      have o0 : 0 ≤ O k := by omega
      have o1 : O k < 4294967296 := by omega
      have o2 : O k < 256 := by omega
      have HL := codeB_len O D A B C X n k
      have HE : Hid (codeB O D A B C X n (k + 1) = codeB O D A B C X n k ++ (O k :: fldB (O k) (D k) (A k) (B k) (C k) (X k) 5)) := rfl
      generalize codeB O D A B C X n k = E at HU HL HE
      have HO1 : Hid (Calls Tryd.prog 47 #[.int .u32 (O k), .int .i64 1] (wr.alloc (.cells #[.int .i64 (O k), .int .i64 (D k), .int .i64 (A k), .int .i64 (B k), .int .i64 (C k), .int .u32 (X k)] 35)) fun e w' => ∃ g c, e = .returned (.slice (some ⟨g, 0, none⟩) 1 c) ∧ NewsAt w' g (lows (O k) 1) ∧ (wr.alloc (.cells #[.int .i64 (O k), .int .i64 (D k), .int .i64 (A k), .int .i64 (B k), .int .i64 (C k), .int .u32 (X k)] 35)).heap.size ≤ g ∧ Below (wr.alloc (.cells #[.int .i64 (O k), .int .i64 (D k), .int .i64 (A k), .int .i64 (B k), .int .i64 (C k), .int .u32 (X k)] 35)).heap.size (wr.alloc (.cells #[.int .i64 (O k), .int .i64 (D k), .int .i64 (A k), .int .i64 (B k), .int .i64 (C k), .int .u32 (X k)] 35)) w') := H43.out (O k) 1 (wr.alloc (.cells #[.int .i64 (O k), .int .i64 (D k), .int .i64 (A k), .int .i64 (B k), .int .i64 (C k), .int .u32 (X k)] 35)) (by decide) o0 o1
      have hne : some wr.heap.size ≠ u.ownBlock := fun e => by have := (HU.out.lt _ e.symm).2; omega
      clear hv RK ho
      go_upto_region 9 with (first | (go_at_call 47; refine HO1.out.mono ?_; rintro e w4 ⟨g4, cp4, rfl, N4, hg4, B4⟩) | (at_builtin; refine wpList_append_lies _ rfl _ _ 40 rfl w.heap.size 5 i5 (.int .u8 0) 1 1 Tryd.underlying40 hi5 hz50 hz51 hz52 rfl (by decide) _ _ _ rfl ((HU.out.alloc _).next B4).1 ⟨g4, 0, none⟩ 1 cp4 (bl (lows (O k) 1)) rfl ?c0 N4 (bl_one _) (by decide) ?c3 ?c4 ?c5 _ rfl ?_))
      case c0 => simp [bl, lows_len]
      case c3 => skip; unfold maxLen; omega
      case c4 => skip; omega
      case c5 => exact ((HU.out.alloc _).next B4).2
      intro g cap' w5 hown hgrow hat hlt
      obtain ⟨m, hm⟩ : ∃ m, E.length + 1 = m := ⟨_, rfl⟩
      rw [hm] at hown ⊢
      have G5 : Gro (wr.alloc (.cells #[.int .i64 (O k), .int .i64 (D k), .int .i64 (A k), .int .i64 (B k), .int .i64 (C k), .int .u32 (X k)] 35)) u w5 (.slice (some ⟨g, 0, none⟩) m cap') := ((Gro.refl _ _).next B4).trans ⟨hgrow, by rcases hat with e | e; exact Or.inl e.symm; exact Or.inr ⟨g, rfl, by omega⟩⟩
      have R5 : Hid (Rb w.heap.size w5 (.slice (some ⟨g, 0, none⟩) m cap') (E ++ [O k])) := by
        refine ⟨?_, ?_⟩
        · rw [bl_app, List.length_append, show ([O k] : List Int).length = 1 from rfl, hm, ← lows1 (O k) o0 o2]
          exact hown
        · have := hgrow.size; have := ((HU.out.alloc (.cells #[.int .i64 (O k), .int .i64 (D k), .int .i64 (A k), .int .i64 (B k), .int .i64 (C k), .int .u32 (X k)] 35)).next B4).2; omega
      have d0 : w5.cell? ⟨wr.heap.size, 0, none⟩ = some (.int .i64 (O k)) := G5.cell (by simp) hne
      have d1 : w5.cell? ⟨wr.heap.size, 1, none⟩ = some (.int .i64 (D k)) := G5.cell (by simp) hne
      have d2 : w5.cell? ⟨wr.heap.size, 2, none⟩ = some (.int .i64 (A k)) := G5.cell (by simp) hne
      have d3 : w5.cell? ⟨wr.heap.size, 3, none⟩ = some (.int .i64 (B k)) := G5.cell (by simp) hne
      have d4 : w5.cell? ⟨wr.heap.size, 4, none⟩ = some (.int .i64 (C k)) := G5.cell (by simp) hne
      have d5 : w5.cell? ⟨wr.heap.size, 5, none⟩ = some (.int .u32 (X k)) := G5.cell (by simp) hne
      have B5 : Hid (Below w.heap.size w w5) := (BK.alloc BK.size _).trans (G5.below (by have := BK.size; simp; omega) (fun g' hg' => (HU.out.lt g' hg').1))
      have ql : wr.heap.size < w5.heap.size := World.block_lt_of_cell? _ ⟨wr.heap.size, 0, none⟩ d0
      have gl := (R5.out.lt g rfl).2
      obtain ⟨q, hq⟩ : ∃ q, wr.heap.size = q := ⟨_, rfl⟩
      rw [hq] at d0 d1 d2 d3 d4 d5 ql ⊢
      clear hown hgrow hat hlt G5 hne c0 c1 c2 c3 c4 c5 HU hm hq BK HO1 N4 hg4 B4
      go_wp2_with (first | (go_at_call 48; refine (HF.out _).mono ?_; rintro e w6 ⟨rfl, B6⟩; (have e0 := (B6.cell (p := ⟨q, 0, none⟩) ql).trans d0); (have e1 := (B6.cell (p := ⟨q, 1, none⟩) ql).trans d1); (have e2 := (B6.cell (p := ⟨q, 2, none⟩) ql).trans d2); (have e3 := (B6.cell (p := ⟨q, 3, none⟩) ql).trans d3); (have e4 := (B6.cell (p := ⟨q, 4, none⟩) ql).trans d4); (have e5 := (B6.cell (p := ⟨q, 5, none⟩) ql).trans d5); (have ql6 : q < w6.heap.size := (by have := B6.size; omega))) | (go_at_call 49; refine (HV4.out _).mono ?_; rintro e w7 ⟨rfl, B7⟩))
      have HC7 : Hid (∀ j, j < 5 → w7.cell? ⟨w6.heap.size, j, none⟩ = some (.bool (nmd (O k) j))) := fun j hj => by
        refine (B7.cell (p := ⟨w6.heap.size, j, none⟩) (by simp)).trans ?_
        rcases (by omega : j = 0 ∨ j = 1 ∨ j = 2 ∨ j = 3 ∨ j = 4) with rfl | rfl | rfl | rfl | rfl <;> simp
      have B67 : Below w5.heap.size w5 w7 := (B6.alloc B6.size _).trans (B7.mono (by have := B6.size; simp; omega))
      have R7 : Hid (Rb w.heap.size w7 (.slice (some ⟨g, 0, none⟩) m cap') (E ++ [O k] ++ fldB (O k) (D k) (A k) (B k) (C k) (X k) 0)) := by show Rb _ _ _ _; rw [fldB, List.append_nil]; exact R5.out.next B67
      have B7' : Hid (Below w.heap.size w w7) := B5.out.trans (B67.mono B5.out.size)
      have HFS : Hid (∀ j, fldB (O k) (D k) (A k) (B k) (C k) (X k) (j + 1) = fldB (O k) (D k) (A k) (B k) (C k) (X k) j ++ (if nmd (O k) j then lows (val (D k) (A k) (B k) (C k) (X k) j) (fldW j) else [])) := fun j => rfl
      have HFL : Hid (∀ j, (fldB (O k) (D k) (A k) (B k) (C k) (X k) j).length ≤ 4 * j) := fldB_len _ _ _ _ _ _
      generalize fldB (O k) (D k) (A k) (B k) (C k) (X k) = FD at HE R7 HFS HFL
      have HIX : Hid (∀ j : Nat, j < 5 → ∀ v, (Instr.index 61 (.agg #[.int .i64 (D k), .int .i64 (A k), .int .i64 (B k), .int .i64 (C k), .int .i64 (X k)]) (.int .i64 (j : Int))).run Tryd.prog v = .ok (.int .i64 (val (D k) (A k) (B k) (C k) (X k) j)) v) := ixiAll _ _ _ _ _
      have gp : g ≠ w6.heap.size := by have := B6.size; omega
      obtain ⟨p, hp⟩ : ∃ p, w6.heap.size = p := ⟨_, rfl⟩
      rw [hp] at HC7 gp ⊢
      clear d0 d1 d2 d3 d4 d5 e0 e1 e2 e3 e4 e5 B6 B7 B67 R5 B5 hp ql ql6 gl HF HV4 x0 x1 o0 o1 o2
      go_loopw [4, 38] (fun vv i wx => ∃ (j : Nat) (u' : Value), j ≤ 5 ∧ i = .int .i64 j ∧ u' = vv ∧ Hid (Rb w.heap.size wx u' (E ++ [O k] ++ FD j)) ∧ Hid (Gro w7 (.slice (some ⟨g, 0, none⟩) m cap') wx u')) (fun _ i _ => 5 - (intOf i).toNat)
      case atStart => exact ⟨0, _, by omega, rfl, rfl, R7, Gro.refl _ _⟩
      case round =>
        obtain ⟨j, u', hj, rfl, rfl, HJ, GJ⟩ := hrel
        by_cases hj5 : j < 5
        · have j1 : (j : Int) < 5 := by omega
          have j0 : (0 : Int) ≤ (j : Int) := by omega
          have cj := GJ.out.cell (HC7.out j hj5) (by simp [Value.ownBlock]; omega)
          have ik := HIX.out j hj5
          obtain ⟨V0, V1⟩ := HV.out j hj5
          have HFj := HFS.out j
          have HLj := HFL.out j
          have h45 : ∀ v, Calls Tryd.prog 50 #[.int .i64 (j : Int)] v fun e w' => e = .returned (.int .i64 (fldW j : Int)) ∧ w' = v := fun v => by
            refine (width45 j hj5 v).mono ?_
            rintro e w' ⟨rfl, rfl⟩
            refine ⟨?_, rfl⟩
            unfold fldW
            split <;> rfl
          have hWd : fldW j = 2 ∨ fldW j = 4 := by unfold fldW; split <;> omega
          generalize fldW j = Wd at h45 hWd HFj
          generalize val (D k) (A k) (B k) (C k) (X k) j = V at ik V0 V1 HFj
          obtain ⟨EJ, hEJ⟩ : ∃ EJ, E ++ [O k] ++ FD j = EJ := ⟨_, rfl⟩
          have HEL : EJ.length ≤ 100000 := by rw [← hEJ]; simp; omega
          have HEJ : Hid (E ++ [O k] ++ FD j = EJ) := hEJ
          rw [hEJ] at HJ
          have H43V : Hid (∀ v, Calls Tryd.prog 47 #[.int .u32 V, .int .i64 (Wd : Int)] v fun e w' => ∃ g c, e = .returned (.slice (some ⟨g, 0, none⟩) Wd c) ∧ NewsAt w' g (lows V Wd) ∧ v.heap.size ≤ g ∧ Below v.heap.size v w') := fun v => H43.out V Wd v (by omega) V0 V1
          clear HFS HFL HC7 HV hEJ
          cases hN : nmd (O k) j
          · rw [hN] at cj HFj
            have HN : Hid (E ++ [O k] ++ FD (j + 1) = EJ) := by show _ = _; rw [HFj, ← HEJ.out]; simp
            clear hN HFj HEJ
            go_wp2
            go_roundw
            case rel => exact ⟨j + 1, _, by omega, by go_num, rfl, by rw [HN.out]; exact HJ, GJ⟩
            case measure => simp [intOf]; omega
          · rw [hN] at cj HFj
            have HN : Hid (E ++ [O k] ++ FD (j + 1) = EJ ++ lows V Wd) := by show _ = _; rw [HFj, ← HEJ.out]; simp
            clear hN HFj HEJ
            go_wp2_with (first | (go_at_call 50; refine (h45 _).mono ?_; rintro e w8 ⟨rfl, hw⟩; subst w8) | (go_at_call 47; refine (H43V.out _).mono ?_; rintro e w8 ⟨g8, c8, rfl, N8, hg8, B8⟩) | (at_builtin; refine wpList_append_lies _ rfl _ _ 40 rfl w.heap.size 5 i5 (.int .u8 0) 1 1 Tryd.underlying40 hi5 hz50 hz51 hz52 rfl (by decide) _ _ _ rfl (HJ.out.next B8).1 ⟨g8, 0, none⟩ Wd c8 (bl (lows V Wd)) rfl ?c0 N8 (bl_one _) (by omega) ?c3 ?c4 ?c5 _ rfl ?_))
            case c0 => simp [bl, lows_len]
            case c3 => skip; unfold maxLen; omega
            case c4 => skip; omega
            case c5 => exact (HJ.out.next B8).2
            intro g9 cap9 w9 hown hgrow hat hlt
            have R9 : Hid (Rb w.heap.size w9 (.slice (some ⟨g9, 0, none⟩) (EJ.length + Wd) cap9) (EJ ++ lows V Wd)) := ⟨by rw [bl_app, List.length_append, lows_len]; exact hown, by have := hgrow.size; have := (HJ.out.next B8).2; omega⟩
            have G9 : Hid (Gro w7 (.slice (some ⟨g, 0, none⟩) m cap') w9 (.slice (some ⟨g9, 0, none⟩) (EJ.length + Wd) cap9)) := (GJ.out.next B8).trans ⟨hgrow, by rcases hat with e | e; exact Or.inl e.symm; exact Or.inr ⟨g9, rfl, by omega⟩⟩
            clear hown hgrow hat hlt
            go_wp2
            go_roundw
            case rel => exact ⟨j + 1, _, by omega, by go_num, rfl, by rw [HN.out]; exact R9, G9⟩
            case measure => simp [intOf]; omega
        · have hjj : j = 5 := by omega
          subst hjj
          have HN : Hid (codeB O D A B C X n (k + 1) = E ++ [O k] ++ FD 5) := by show _ = _; rw [HE.out]; simp
          have BJ : Hid (Below w.heap.size w wr) := B7'.out.trans (GJ.out.below B7'.out.size (fun g' hg' => (R7.out.lt g' hg').1))
          rw [show ((5 : Nat) : Int) = 5 from rfl]
          clear HFS HFL HC7 HV HE
          go_wp2
          go_roundw
          case rel => exact ⟨k + 1, _, by omega, by go_num, rfl, by rw [HN.out]; exact HJ, BJ.out⟩
          case measure => simp [intOf]; omega
    · have hkk : k = n := by omega
      subst hkk
      have HL := codeB_len O D A B C X k k
      have HE : Hid (encB O D A B C X k = codeB O D A B C X k k ++ lows (crcL (codeB O D A B C X k k)) 2) := rfl
      have HP : Hid (0 < (codeB O D A B C X k k).length) := codeB_pos O D A B C X k k
      have HI : Hid (∀ i, i < (codeB O D A B C X k k).length → 0 ≤ (codeB O D A B C X k k).getD i 0 ∧ (codeB O D A B C X k k).getD i 0 < 256) := codeB_byte O D A B C X k HBd.out k (Nat.le_refl _)
      generalize codeB O D A B C X k k = E at HU HL HE HP HI
      obtain ⟨g, cp, rfl, hg, _⟩ := World.ownsRow.form HU.out.1 HP.out
      have OW : Hid (Own wr g E.length (fun i => .int .u8 (E.getD i 0))) := own_owned HU.out.1 _ (fun i hi => by unfold bl; rw [List.getElem?_map, List.getD_eq_getElem?_getD, List.getElem?_eq_getElem hi]; rfl)
      have HC : Hid (Calls Tryd.prog 51 #[.slice (some ⟨g, 0, none⟩) E.length cp] wr fun e w' => e = .returned (.int .u32 (crcL E)) ∧ w' = wr) := crc46 g E.length cp _ wr (by omega) OW.out HI.out
      obtain ⟨r0, r1⟩ := crcF_range (fun i => E.getD i 0) E.length
      have HLo : Hid (Calls Tryd.prog 47 #[.int .u32 (crcL E), .int .i64 2] wr fun e w' => ∃ g c, e = .returned (.slice (some ⟨g, 0, none⟩) 2 c) ∧ NewsAt w' g (lows (crcL E) 2) ∧ wr.heap.size ≤ g ∧ Below wr.heap.size wr w') := H43.out (crcL E) 2 wr (by decide) r0 (by unfold crcL; omega)
      clear RK r0 r1
      go_wp2_with (first | (go_at_call 51; refine HC.out.mono ?_; rintro e w4 ⟨rfl, hw⟩; subst w4) | (go_at_call 47; refine HLo.out.mono ?_; rintro e w8 ⟨g8, c8, rfl, N8, hg8, B8⟩) | (at_builtin; refine wpList_append_lies _ rfl _ _ 40 rfl w.heap.size 5 i5 (.int .u8 0) 1 1 Tryd.underlying40 hi5 hz50 hz51 hz52 rfl (by decide) _ _ _ rfl (HU.out.next B8).1 ⟨g8, 0, none⟩ 2 c8 (bl (lows (crcL E) 2)) rfl ?c0 N8 (bl_one _) (by omega) ?c3 ?c4 ?c5 _ rfl ?_))
      case c0 => simp [bl, lows_len]
      case c3 => skip; unfold maxLen; omega
      case c4 => skip; omega
      case c5 => exact (HU.out.next B8).2
      intro g9 cap9 w9 hown hgrow hat hlt
      have R9 : Hid (Rb w.heap.size w9 (.slice (some ⟨g9, 0, none⟩) (E.length + 2) cap9) (E ++ lows (crcL E) 2)) := ⟨by rw [bl_app, List.length_append, lows_len]; exact hown, by have := hgrow.size; have := (HU.out.next B8).2; omega⟩
      have G9 : Gro w8 (.slice (some ⟨g, 0, none⟩) E.length cp) w9 (.slice (some ⟨g9, 0, none⟩) (E.length + 2) cap9) := ⟨hgrow, by rcases hat with e | e; exact Or.inl e.symm; exact Or.inr ⟨g9, rfl, by omega⟩⟩
      have B9 : Hid (Below w.heap.size w w9) := (BK.trans (B8.mono BK.size)).trans (G9.below (by have := BK.size; have := B8.size; omega) (fun g' hg' => (HU.out.lt g' hg').1))
      clear hown hgrow hat hlt G9
      go_wp2
      go_ret2
      exact ⟨_, rfl, by rw [HE.out]; exact R9.out, B9.out⟩
set_option maxRecDepth 100000 in
set_option maxHeartbeats 2000000 in
theorem enc22_no (n a cap : Nat) (O D A B C X : Nat → Int) (w : World) (G : Forms w) (R : RowI w a n O D A B C X) (hX : Wds X n) (hn : n ≤ 1048576) (hg : goodC O D A B C X n = false) : Calls Tryd.prog 23 #[.slice (some ⟨a, 0, none⟩) n cap] w fun e w' => e = .returned (.tuple #[.slice none 0 0, .bool false]) ∧ Below w.heap.size w w' := by
  have h := good11 n a cap O D A B C X w G R hX hn
  rw [hg] at h
  clear R hX G
  go_enter Tryd.func23, Tryd.ntmps23
  go_wp2_with (go_at_call 12; refine h.mono ?_; rintro e w1 ⟨rfl, B1⟩)
  go_ret2
  exact ⟨rfl, B1⟩
set_option maxRecDepth 100000 in
set_option maxHeartbeats 2000000 in
theorem enc21_no (n a cap : Nat) (O D A B C X : Nat → Int) (w : World) (R : RowI w a n O D A B C X) (hX : Wds X n) (hn : n ≤ 1048576) (hg : goodC O D A B C X n = false) : Calls Tryd.prog 22 #[.slice (some ⟨a, 0, none⟩) n cap] w fun e w' => e = .returned (.tuple #[.slice none 0 0, .bool false]) ∧ Below w.heap.size w w' := by
  have h := good9 n a cap O D A B C X w R hX hn
  rw [hg] at h
  clear R hX
  go_enter Tryd.func22, Tryd.ntmps22
  go_wp2_with (go_at_call 10; refine h.mono ?_; rintro e w1 ⟨rfl, B1⟩)
  go_ret2
  exact ⟨rfl, B1⟩
set_option maxRecDepth 100000 in
set_option maxHeartbeats 2000000 in
theorem enc21_yes (n a cap : Nat) (O D A B C X : Nat → Int) (w : World) (R : RowI w a n O D A B C X) (hX : Wds X n) (hn : n ≤ 600) (hg : goodC O D A B C X n = true) (hb : ∀ k, k < n → Bds (O k) (D k) (A k) (B k) (C k) (X k)) : Calls Tryd.prog 22 #[.slice (some ⟨a, 0, none⟩) n cap] w fun e w' => ∃ v, e = .returned (.tuple #[v, .bool true]) ∧ Rb w.heap.size w' v (encB O D A B C X n) ∧ Below w.heap.size w w' := by
  have h := good9 n a cap O D A B C X w R hX (by omega)
  rw [hg] at h
  have H42 : Hid (∀ v, Below w.heap.size w v → Calls Tryd.prog 46 #[.slice (some ⟨a, 0, none⟩) n cap] v fun e w' => ∃ x, e = .returned x ∧ Rb v.heap.size w' x (encB O D A B C X n) ∧ Below v.heap.size v w') := fun v b => bytes42 n a cap O D A B C X v (R.next b) hb hn
  clear R hX hg hb
  go_enter Tryd.func22, Tryd.ntmps22
  go_wp2_with (first | (go_at_call 10; refine h.mono ?_; rintro e w1 ⟨rfl, B1⟩) | (go_at_call 46; refine (H42.out w1 B1).mono ?_; rintro e w2 ⟨x, rfl, R2, B2⟩))
  go_ret2
  exact ⟨_, rfl, ⟨R2.1.mono B1.size, by have := B1.size; have := R2.2; omega⟩, B1.trans (B2.mono B1.size)⟩
theorem goodC_bds {O D A B C X : Nat → Int} {n : Nat} (h : goodC O D A B C X n = true) : n ≤ 600 ∧ 1 ≤ n ∧ ∀ k, k < n → Bds (O k) (D k) (A k) (B k) (C k) (X k) := by
  unfold goodC at h
  simp only [Bool.and_eq_true, decide_eq_true_eq] at h
  obtain ⟨⟨h1, h2⟩, h3, _⟩ := h
  exact ⟨h2, h1, fun k hk => bds_of (allB_at _ n k h3 hk) (by omega)⟩
end Go.Proofs.YtablacgmedkgjaaDoor
