/- The program's turned: rows of numbers told the other way round. -/
import Derived.Test.YtmeokhppaekhpaaDoorTrm
import Derived.Test.YtmeokhppaekhpaaDoorLwo
namespace Go.Proofs.YtmeokhppaekhpaaDoor
open Go.ChangeShapes Go.WideShapes Go.ChangeAt Go.RowKit
set_option linter.unusedVariables false
set_option maxRecDepth 100000 in
set_option maxHeartbeats 16000000 in
theorem turned42 (m K : Nat) (f : Nat → List Int) (v : Value) (w : World) (H : ARows w v m f) (hm : m ≤ 600) (hK : K ≤ 600) (hb : ∀ i, i < m → ∀ t, t ∈ f i → 0 ≤ t ∧ t < K) (hl : ∀ i, i < m → (f i).length ≤ 600) : Calls Tryd.prog 42 #[v, .int .i64 (K : Int)] w fun e w' => ∃ u, e = .returned u ∧ Cols w.heap.size w' u K (fun x => colL f m x) ∧ Below w.heap.size w w' := by
  obtain ⟨i3, hi3, hz30, hz31, hz32⟩ := info_parts info3
  obtain ⟨i40, hi40, hz400, hz401, hz402⟩ := info_parts info34
  have HOB : Hid (∀ k, k ≤ m → offs (fun x => (colL f k x).length) K ≤ 360000) := fun k hk => by
    have := offs_bnd f K 600 k (fun i hi => hl i (by omega)) (fun i hi => hb i (by omega))
    have := Nat.mul_le_mul_right 600 (show k ≤ 600 by omega)
    omega
  have HBd : Hid (∀ i, i < m → ∀ t, t ∈ f i → 0 ≤ t ∧ t < K) := hb
  have HLe : Hid (∀ i, i < m → (f i).length ≤ 600) := hl
  obtain ⟨ad, cv, rfl, HR0⟩ := H
  have HR : Hid (∀ i, i < m → ∃ q o u, ad = some ⟨q, o, none⟩ ∧ w.cell? ⟨q, o + i, none⟩ = some u ∧ ARow w u (f i)) := HR0
  have HPost : Hid (∀ u w', Cols w.heap.size w' u K (fun x => colL f m x) → Below w.heap.size w w' → ∃ x, Ending.returned u = .returned x ∧ Cols w.heap.size w' x K (fun x => colL f m x) ∧ Below w.heap.size w w') := fun u w' a b => ⟨u, rfl, a, b⟩
  clear hb hl HR0
  go_enter Tryd.func42, Tryd.ntmps42
  go_wp2_with (at_make; refine wpList_make_full _ rfl _ _ 40 rfl w.heap.size 3 i3 (.int .i64 0) 1 Tryd.underlying40 hi3 hz30 hz31 .i64 .i64 _ _ K rfl rfl rfl rfl ?b2 ?b3 (Nat.le_refl _) ?_)
  case b2 => (try rw [hz32]); omega
  case b3 => (try unfold maxLen); omega
  intro w1 hown hgrow
  have A1 : Own w1 w.heap.size K (fun _ => .int .i64 0) := own_made (by rw [Nat.mul_one]; exact hown)
  have B1 : Hid (Below w.heap.size w w1) := ⟨hgrow.os, hgrow.tape, hgrow.output, hgrow.size, fun k hk => hgrow.block k hk (by simp)⟩
  have O1 : Hid (Own w1 w.heap.size K (fun x => .int .i64 (((colL f 0 x).length : Nat) : Int))) := A1
  have Z0 : offs (fun x => (colL f 0 x).length) K = 0 := by have := offs_bnd f K 0 0 (fun i hi => by omega) (fun i hi => by omega); omega
  obtain ⟨gs, hgs⟩ : ∃ gs, w.heap.size = gs := ⟨_, rfl⟩
  rw [hgs] at O1 B1 HPost ⊢
  have HG : Hid (w.heap.size = gs) := hgs
  clear hown hgrow A1 hgs
  go_wp2
  go_loopw [6, 23] (fun al i wx => ∃ k : Nat, k ≤ m ∧ i = .int .i64 k ∧ al = .int .i64 ((offs (fun x => (colL f k x).length) K : Nat) : Int) ∧ Hid (Own wx gs K (fun x => .int .i64 (((colL f k x).length : Nat) : Int))) ∧ Hid (Below gs w wx)) (fun _ i _ => m - (intOf i).toNat)
  case atStart => exact ⟨0, Nat.zero_le _, rfl, by rw [Z0]; rfl, O1, B1⟩
  case round =>
    obtain ⟨k, hk, rfl, rfl, OJ, BJ⟩ := hrel
    clear O1 B1 Z0
    by_cases hkm : k < m
    · have i1 : (k : Int) < (m : Int) := by omega
      have i0 : (0 : Int) ≤ (k : Int) := by omega
      obtain ⟨q, o, u, rfl, cu, ad2, c2, rfl, HC⟩ := HR.out k hkm
      have BJ' : Below w.heap.size w wr := by rw [HG.out]; exact BJ.out
      have ck := cell_nx cu BJ'
      have HC2 : Hid (∀ i, i < (f k).length → ∃ g o, ad2 = some ⟨g, o, none⟩ ∧ w.cell? ⟨g, o + i, none⟩ = some (.int .i64 ((f k).getD i 0))) := HC
      have hlk := HLe.out k hkm
      have hok := HOB.out k (by omega)
      have HOR : Hid (offs (fun x => (colL f (k + 1) x).length) K = offs (fun x => (colL f k x).length) K + (f k).length) := offs_rows f k K (HBd.out k hkm)
      generalize offs (fun x => (colL f k x).length) K = al at hok HOR
      obtain ⟨ml, hml⟩ : ∃ ml, (f k).length = ml := ⟨_, rfl⟩
      have HML : Hid ((f k).length = ml) := hml
      rw [hml] at ck hlk
      have OS : Hid (Own wr gs K (fun x => .int .i64 (((colP f k 0 x).length : Nat) : Int))) := OJ.out.mono (Nat.le_refl _) (fun x hx => by rw [colP_zero])
      clear cu HC OJ BJ' hml
      go_wp2
      go_loopw [33] (fun i wx => ∃ j : Nat, j ≤ ml ∧ i = .int .i64 j ∧ Hid (Own wx gs K (fun x => .int .i64 (((colP f k j x).length : Nat) : Int))) ∧ Hid (Below gs w wx)) (fun i _ => ml - (intOf i).toNat)
      case atStart => exact ⟨0, Nat.zero_le _, rfl, OS, BJ⟩
      case round =>
        obtain ⟨j, hj, rfl, OJ, BJ⟩ := hrel
        clear OS ck
        by_cases hjm : j < ml
        · have j1 : (j : Int) < (ml : Int) := by omega
          have j0 : (0 : Int) ≤ (j : Int) := by omega
          have hjl : j < (f k).length := by rw [HML.out]; exact hjm
          obtain ⟨g, o2, rfl, ct⟩ := HC2.out j hjl
          have ct := cell_nx ct (show Below w.heap.size w wr by rw [HG.out]; exact BJ.out)
          obtain ⟨t0, t1⟩ := HBd.out k hkm ((f k).getD j 0) (by simp [List.getD, hjl])
          obtain ⟨x, hx⟩ : ∃ x : Nat, (f k).getD j 0 = (x : Int) := ⟨((f k).getD j 0).toNat, by omega⟩
          rw [hx] at ct
          have x0 : (0 : Int) ≤ (x : Int) := by omega
          have x1 : (x : Int) < (K : Int) := by omega
          have xK : x < K := by omega
          have cx := OJ.out.cell x xK
          have fx := OJ.out.free x
          have hle : (colP f k j x).length ≤ 360000 := by
            have := colP_le f k j x m hkm
            have := offs_lt (fun x => (colL f m x).length) xK
            have := HOB.out m (Nat.le_refl _)
            omega
          have ON : Hid (Own (wr.setCell ⟨gs, x, none⟩ (.int .i64 (((colP f k j x).length : Int) + 1))) gs K (fun x => .int .i64 (((colP f k (j + 1) x).length : Nat) : Int))) := OJ.out.set x _ xK (fun y hy => by
            by_cases e : y = x
            · subst e
              rw [if_pos rfl, colP_at f k j y hjl hx, List.length_append]
              rfl
            · rw [if_neg e, colP_not f k j y hjl (by rw [hx]; omega)])
          have BN : Hid (Below gs w (wr.setCell ⟨gs, x, none⟩ (.int .i64 (((colP f k j x).length : Int) + 1)))) := BJ.out.setCell (p := ⟨gs, x, none⟩) (Nat.le_refl _) _
          generalize (colP f k j x).length = z at cx hle ON BN
          clear OJ BJ t0 t1 hx
          go_wp2
          go_roundw
          case rel => exact ⟨j + 1, by omega, by go_num, ON, BN⟩
          case measure => simp [intOf]; omega
        · obtain rfl : ml = j := by omega
          have j1 : ¬ (ml : Int) < (ml : Int) := by omega
          have ON : Hid (Own wr gs K (fun x => .int .i64 (((colL f (k + 1) x).length : Nat) : Int))) := OJ.out.mono (Nat.le_refl _) (fun x hx => by rw [← colP_full, HML.out])
          clear OJ
          go_wp2
          go_roundw
          case rel => exact ⟨k + 1, by omega, by go_num, by rw [HOR.out, HML.out]; rfl, ON, BJ⟩
          case measure => simp [intOf]; omega
    · obtain rfl : m = k := by omega
      have i1 : ¬ (m : Int) < (m : Int) := by omega
      have hA := HOB.out m (Nat.le_refl _)
      obtain ⟨A, hA1⟩ : ∃ A, offs (fun x => (colL f m x).length) K = A := ⟨_, rfl⟩
      have HA : Hid (offs (fun x => (colL f m x).length) K = A) := hA1
      rw [hA1] at hA ⊢
      clear hA1
      have gW : gs ≤ wr.heap.size := by have := BJ.out.size; have := HG.out; omega
      go_wp2_with (at_make; refine wpList_make_full _ rfl _ _ 40 rfl wr.heap.size 3 i3 (.int .i64 0) 1 Tryd.underlying40 hi3 hz30 hz31 .i64 .i64 _ _ A rfl rfl rfl rfl ?b2 ?b3 (Nat.le_refl _) ?_)
      case b2 => (try rw [hz32]); omega
      case b3 => (try unfold maxLen); omega
      intro w2 hown hgrow
      have A2 : Own w2 wr.heap.size A (fun _ => .int .i64 0) := own_made (by rw [Nat.mul_one]; exact hown)
      have B2 : Below wr.heap.size wr w2 := ⟨hgrow.os, hgrow.tape, hgrow.output, hgrow.size, fun k hk => hgrow.block k hk (by simp)⟩
      clear hown hgrow
      have O2 := OJ.out.next B2
      have BW2 : Hid (Below gs w w2) := BJ.out.trans (B2.mono gW)
      have HgsLt : gs < wr.heap.size := OJ.out.hi
      obtain ⟨g, hg⟩ : ∃ g, wr.heap.size = g := ⟨_, rfl⟩
      rw [hg] at A2 gW HgsLt ⊢
      clear OJ BJ B2 hg
      go_wp2_with (at_make; refine wpList_make_full _ rfl _ _ 24 rfl w2.heap.size 40 i40 (.slice none 0 0) 1 Tryd.underlying24 hi40 hz400 hz401 .i64 .i64 _ _ K rfl rfl rfl rfl ?b2 ?b3 (Nat.le_refl _) ?_)
      case b2 => (try rw [hz402]); omega
      case b3 => (try unfold maxLen); omega
      intro w3 hown hgrow
      have A3 : Own w3 w2.heap.size K (fun _ => .slice none 0 0) := own_made (by rw [Nat.mul_one]; exact hown)
      have B3 : Below w2.heap.size w2 w3 := ⟨hgrow.os, hgrow.tape, hgrow.output, hgrow.size, fun k hk => hgrow.block k hk (by simp)⟩
      clear hown hgrow
      have z2 := A2.hi
      have HT0 : Hid (Tk w3 w2.heap.size g gs K A 0 (fun x => (colL f m x).length)) := ⟨fun x hx => by omega, fun x hx => by rw [A3.cell x hx]; rfl, A2.next B3, O2.next B3, A3.free, by omega, by omega, A3.hi⟩
      have BW3 : Hid (Below gs w w3) := BW2.out.trans (B3.mono (by omega))
      have HGc : Hid (gs ≤ w2.heap.size) := by show _ ≤ _; omega
      have HGg : Hid (gs ≤ g) := by show _ ≤ _; omega
      obtain ⟨gc, hgc⟩ : ∃ gc, w2.heap.size = gc := ⟨_, rfl⟩
      rw [hgc] at HT0 HGc ⊢
      clear A2 A3 O2 B3 BW2 z2 gW HgsLt hgc
      have HA2 := HA
      have HOB2 := HOB
      have HSx : Hid (∀ x, (fun x => (colL f m x).length) x = (colL f m x).length) := fun x => rfl
      generalize (fun x => (colL f m x).length) = S at HT0 HA2 HSx
      clear HOB2
      go_wp2
      go_loopw [11, 51] (fun rv i wx => ∃ k r o : Nat, k ≤ K ∧ i = .int .i64 k ∧ rv = .slice (some ⟨g, o, none⟩) r r ∧ Hid (offs S k + r = A) ∧ Hid (0 < r → o = offs S k) ∧ Hid (Tk wx gc g gs K A k S) ∧ Hid (Below gs w wx)) (fun _ i _ => K - (intOf i).toNat)
      case atStart => exact ⟨0, A, 0, Nat.zero_le _, rfl, rfl, by show offs S 0 + A = A; rw [offs]; omega, fun _ => rfl, HT0, BW3⟩
      case round =>
        obtain ⟨k, r, o, hk, rfl, rfl, HRA, HRO, TJ, BJ⟩ := hrel
        clear HT0 BW3
        by_cases hkK : k < K
        · have k1 : (k : Int) < (K : Int) := by omega
          have k0 : (0 : Int) ≤ (k : Int) := by omega
          have cs := TJ.out.os.cell k hkK
          have hex := TJ.out.ex k hkK
          have hfr := TJ.out.fc k
          obtain ⟨cv0, cg⟩ := Option.isSome_iff_exists.1 hex
          have hsr : S k ≤ r := by
            have := offs_lt S hkK
            have := HA2.out
            have := HRA.out
            omega
          have hrA : r ≤ A := by have := HRA.out; omega
          have TN : Hid (Tk (wr.setCell ⟨gc, k, none⟩ (.slice (some ⟨g, o, none⟩) 0 (S k))) gc g gs K A (k + 1) S) := TJ.out.step hkK (fun h => HRO.out (by omega))
          have BN : Hid (Below gs w (wr.setCell ⟨gc, k, none⟩ (.slice (some ⟨g, o, none⟩) 0 (S k)))) := BJ.out.setCell (p := ⟨gc, k, none⟩) HGc.out _
          have HOf : Hid (offs S (k + 1) = offs S k + S k) := rfl
          generalize S k = s at cs hsr TN BN HOf
          have s0 : (0 : Int) ≤ (s : Int) := by omega
          have s1 : (s : Int) ≤ (r : Int) := by omega
          clear TJ BJ hex
          by_cases hsr2 : s = r
          · subst hsr2
            have HRA2 : Hid (offs S (k + 1) + 0 = A) := by show _ = _; have := HRA.out; have := HOf.out; omega
            have q1 : s - s = 0 := by omega
            go_wp2
            go_roundw
            case rel => exact ⟨k + 1, 0, o, by omega, by go_num, by simp, HRA2, fun h => absurd h (by omega), TN, BN⟩
            case measure => simp [intOf]; omega
          · have s2 : (s : Int) < (r : Int) := by omega
            have HRA2 : Hid (offs S (k + 1) + (r - s) = A) := by show _ = _; have := HRA.out; have := HOf.out; omega
            have HRO2 : Hid (0 < r - s → o + s = offs S (k + 1)) := fun h => by have := HRO.out (by omega); have := HOf.out; omega
            go_wp2
            go_roundw
            case rel => exact ⟨k + 1, r - s, o + s, by omega, by go_num, by simp, HRA2, HRO2, TN, BN⟩
            case measure => simp [intOf]; omega
        · obtain rfl : K = k := by omega
          have k1 : ¬ (K : Int) < (K : Int) := by omega
          have C0 : Hid (Tc wr gc g K S (fun x => colL f 0 x)) := TJ.out.tc HA2.out
          clear TJ HRA HRO
          go_wp2
          go_loopw [68] (fun i wx => ∃ k : Nat, k ≤ m ∧ i = .int .i64 k ∧ Hid (Tc wx gc g K S (fun x => colL f k x)) ∧ Hid (Below gs w wx)) (fun i _ => m - (intOf i).toNat)
          case atStart => exact ⟨0, Nat.zero_le _, rfl, C0, BJ⟩
          case round =>
            obtain ⟨k, hk, rfl, CJ, BJ⟩ := hrel
            clear C0
            by_cases hkm : k < m
            · have i1 : (k : Int) < (m : Int) := by omega
              have i0 : (0 : Int) ≤ (k : Int) := by omega
              obtain ⟨q, o, u, rfl, cu, ad2, c2, rfl, HC⟩ := HR.out k hkm
              have BJ' : Below w.heap.size w wr := by rw [HG.out]; exact BJ.out
              have ck := cell_nx cu BJ'
              have HC2 : Hid (∀ i, i < (f k).length → ∃ g o, ad2 = some ⟨g, o, none⟩ ∧ w.cell? ⟨g, o + i, none⟩ = some (.int .i64 ((f k).getD i 0))) := HC
              have hlk := HLe.out k hkm
              obtain ⟨ml, hml⟩ : ∃ ml, (f k).length = ml := ⟨_, rfl⟩
              have HML : Hid ((f k).length = ml) := hml
              rw [hml] at ck hlk
              have CS : Hid (Tc wr gc g K S (fun x => colP f k 0 x)) := CJ.out.ext (fun x hx => (colP_zero f k x).symm)
              clear cu HC CJ BJ' hml
              go_wp2
              go_loopw [75] (fun i wx => ∃ j : Nat, j ≤ ml ∧ i = .int .i64 j ∧ Hid (Tc wx gc g K S (fun x => colP f k j x)) ∧ Hid (Below gs w wx)) (fun i _ => ml - (intOf i).toNat)
              case atStart => exact ⟨0, Nat.zero_le _, rfl, CS, BJ⟩
              case round =>
                obtain ⟨j, hj, rfl, CJ, BJ⟩ := hrel
                clear CS ck
                by_cases hjm : j < ml
                · have j1 : (j : Int) < (ml : Int) := by omega
                  have j0 : (0 : Int) ≤ (j : Int) := by omega
                  have hjl : j < (f k).length := by rw [HML.out]; exact hjm
                  obtain ⟨g2, o2, rfl, ct⟩ := HC2.out j hjl
                  have ct := cell_nx ct (show Below w.heap.size w wr by rw [HG.out]; exact BJ.out)
                  obtain ⟨t0, t1⟩ := HBd.out k hkm ((f k).getD j 0) (by simp [List.getD, hjl])
                  obtain ⟨x, hx⟩ : ∃ x : Nat, (f k).getD j 0 = (x : Int) := ⟨((f k).getD j 0).toNat, by omega⟩
                  rw [hx] at ct
                  have x0 : (0 : Int) ≤ (x : Int) := by omega
                  have x1 : (x : Int) < (K : Int) := by omega
                  have xK : x < K := by omega
                  have hlt : (colP f k j x).length < S x := by have := colP_lt f k j x m hkm hjl hx; have := HSx.out x; omega
                  obtain ⟨o3, cx, ho3⟩ := CJ.out.col x xK
                  obtain rfl := ho3 (by omega)
                  clear ho3
                  obtain ⟨w4, hw4⟩ : ∃ w4, wr.alloc (.cells #[.int .i64 (k : Int)] 3) = w4 := ⟨_, rfl⟩
                  have B4 : Below wr.heap.size wr w4 := by rw [← hw4]; exact (Below.refl _ _).alloc (Nat.le_refl _) _
                  have C4 := CJ.out.next B4
                  have c4 : w4.cell? ⟨wr.heap.size, 0, none⟩ = some (.int .i64 (k : Int)) := by rw [← hw4]; simp
                  have cx4 := cell_nx cx B4
                  have hr4 := C4.room (offs S x + (colP f k j x).length) (by have := offs_lt S xK; omega)
                  have hf4 := C4.fg (offs S x + (colP f k j x).length)
                  have hf5 := C4.fc x
                  have CN : Hid (Tc ((w4.setCell ⟨g, offs S x + (colP f k j x).length, none⟩ (.int .i64 (k : Int))).setCell ⟨gc, x, none⟩ (.slice (some ⟨g, offs S x, none⟩) ((colP f k j x).length + 1) (S x))) gc g K S (fun y => colP f k (j + 1) y)) := (C4.push xK hlt (k : Int)).ext (fun y hy => by
                    unfold upL
                    by_cases e : y = x
                    · subst e
                      rw [if_pos rfl, colP_at f k j y hjl hx]
                    · rw [if_neg e, colP_not f k j y hjl (by rw [hx]; omega)])
                  have BN : Hid (Below gs w ((w4.setCell ⟨g, offs S x + (colP f k j x).length, none⟩ (.int .i64 (k : Int))).setCell ⟨gc, x, none⟩ (.slice (some ⟨g, offs S x, none⟩) ((colP f k j x).length + 1) (S x)))) := ((BJ.out.trans (B4.mono (by have := BJ.out.size; have := HG.out; omega))).setCell (p := ⟨g, _, none⟩) HGg.out _).setCell (p := ⟨gc, x, none⟩) HGc.out _
                  have cx5 : (w4.setCell ⟨g, offs S x + (colP f k j x).length, none⟩ (.int .i64 (k : Int))).cell? ⟨gc, x, none⟩ = some (.slice (some ⟨g, offs S x, none⟩) (colP f k j x).length (S x)) := by rw [World.cell?_setCell_other (h := addr_ne' (Ne.symm C4.ne))]; exact cx4
                  generalize (colP f k j x).length = z at cx cx4 cx5 hlt hr4 hf4 CN BN
                  generalize offs S x = ofx at cx cx4 cx5 hr4 hf4 CN BN
                  generalize S x = sx at cx cx4 cx5 hlt CN BN
                  clear CJ BJ C4 B4 t0 t1 hx
                  go_wp2_with (at_builtin; refine wpList_append_one rfl _ _ 40 rfl i3 Tryd.underlying40 hi3 hz31 g ofx z sx wr.heap.size 1 (k : Int) rfl rfl c4 hlt hr4 hf4 ?_)
                  go_roundw
                  case rel => exact ⟨j + 1, by omega, by go_num, CN, BN⟩
                  case measure => simp [intOf]; omega
                · obtain rfl : ml = j := by omega
                  have j1 : ¬ (ml : Int) < (ml : Int) := by omega
                  have CN : Hid (Tc wr gc g K S (fun x => colL f (k + 1) x)) := CJ.out.ext (fun x hx => by rw [← colP_full, HML.out])
                  clear CJ
                  go_wp2
                  go_roundw
                  case rel => exact ⟨k + 1, by omega, by go_num, CN, BJ⟩
                  case measure => simp [intOf]; omega
            · obtain rfl : m = k := by omega
              have i1 : ¬ (m : Int) < (m : Int) := by omega
              have CE : Hid (Cols gs wr (.slice (some ⟨gc, 0, none⟩) K K) K (fun x => colL f m x)) := by
                refine ⟨gc, g, rfl, HGc.out, HGg.out, ?_⟩
                have : S = fun x => (colL f m x).length := funext HSx.out
                rw [← this]
                exact CJ.out
              clear CJ
              go_wp2
              go_ret
              rw [HG.out]
              exact HPost.out _ _ CE.out BJ.out
end Go.Proofs.YtmeokhppaekhpaaDoor
