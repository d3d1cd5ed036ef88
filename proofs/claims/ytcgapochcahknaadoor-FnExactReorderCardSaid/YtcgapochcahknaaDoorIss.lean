/- Rows of rows of whole numbers: compared, marked, held against their marks. -/
import Derived.Test.YtcgapochcahknaaDoorArs
import Derived.Test.YtcgapochcahknaaDoorRwm
import Derived.Test.YtcgapochcahknaaDoorLat
import Derived.Deep.QuietTactic
import Derived.Deep.RegionWith
namespace Go.Proofs.YtcgapochcahknaaDoor
open Go.ChangeShapes Go.WideShapes Go.ChangeAt Go.RowKit
set_option linter.unusedVariables false
set_option maxRecDepth 100000 in
set_option maxHeartbeats 2000000 in
theorem eqI25 (n : Nat) (ada adb : Option Addr) (ca cb : Nat) (f : Nat → Int) (w : World) (hn : n ≤ 1048576) (ha0 : ∀ i, i < n → ∃ g o, ada = some ⟨g, o, none⟩ ∧ w.cell? ⟨g, o + i, none⟩ = some (.int .i64 (f i))) (hb0 : ∀ i, i < n → ∃ g o, adb = some ⟨g, o, none⟩ ∧ w.cell? ⟨g, o + i, none⟩ = some (.int .i64 (f i))) :
    Calls Tryd.prog 29 #[.slice ada n ca, .slice adb n cb] w fun r w' => r = .returned (.bool true) ∧ ∃ k, w' = w.drewN k := by
  have ha := Hid.mk ha0
  have hb := Hid.mk hb0
  clear ha0 hb0
  go_enter Tryd.func29, Tryd.ntmps29
  go_wp2
  go_loopw [5] (fun i wx => ∃ k q : Nat, k ≤ n ∧ i = .int .i64 k ∧ wx = w.drewN q) (fun i _ => n - (intOf i).toNat)
  case atStart => exact ⟨0, 0, by omega, rfl, rfl⟩
  case round =>
    obtain ⟨k, q, hk, rfl, rfl⟩ := hrel
    by_cases hkn : k < n
    · obtain ⟨ga, oa, rfl, c1⟩ := ha.out k hkn
      obtain ⟨gb, ob, rfl, c2⟩ := hb.out k hkn
      have i0 : (0 : Int) ≤ (k : Int) := by omega
      have i1 : (k : Int) < (n : Int) := by omega
      go_wp2
      go_quiet (fail)
      go_wp2
      go_roundw
      case rel => exact ⟨k + 1, _, by omega, by go_num, rfl⟩
      case measure => simp [intOf]; omega
    · have hkk : k = n := by omega
      subst hkk
      go_wp2
      go_ret
      exact ⟨rfl, q, rfl⟩
theorem eqA25 {w : World} {u v : Value} {L : List Int} (hn : L.length ≤ 1048576) (U : ARow w u L) (V : ARow w v L) : Calls Tryd.prog 29 #[u, v] w fun r w' => r = .returned (.bool true) ∧ ∃ k, w' = w.drewN k := by
  obtain ⟨a, c, rfl, h⟩ := U
  obtain ⟨a', c', rfl, h'⟩ := V
  exact eqI25 L.length a a' c c' (fun i => L.getD i 0) w hn h h'
theorem ARow.drewN {w : World} {v : Value} {L : List Int} (h : ARow w v L) (q : Nat) : ARow (w.drewN q) v L := h.next (below_drewN (Below.refl _ _) q)
set_option maxRecDepth 100000 in
set_option maxHeartbeats 4000000 in
theorem eq10 (m : Nat) (L : Nat → List Int) (u v : Value) (w : World) (hm : m ≤ 1048576) (hl : ∀ i, i < m → (L i).length ≤ 1048576) (U : ARows w u m L) (V : ARows w v m L) : Calls Tryd.prog 21 #[u, v] w fun r w' => r = .returned (.bool true) ∧ Below w.heap.size w w' := by
  obtain ⟨ada, ca, rfl, ha0⟩ := U
  obtain ⟨adb, cb, rfl, hb0⟩ := V
  have ha := Hid.mk ha0
  have hb := Hid.mk hb0
  have hL := Hid.mk hl
  clear ha0 hb0 hl
  go_enter Tryd.func21, Tryd.ntmps21
  go_wp2
  go_loopw [5] (fun i wx => ∃ k : Nat, k ≤ m ∧ i = .int .i64 k ∧ Below w.heap.size w wx) (fun i _ => m - (intOf i).toNat)
  case atStart => exact ⟨0, by omega, rfl, Below.refl _ _⟩
  case round =>
    obtain ⟨k, hk, rfl, B⟩ := hrel
    by_cases hkn : k < m
    · obtain ⟨ga, oa, ua, rfl, c1, U1⟩ := ha.out k hkn
      obtain ⟨gb, ob, ub, rfl, c2, U2⟩ := hb.out k hkn
      have d1 := cell_nx c1 B
      have d2 := cell_nx c2 B
      have h25 : ∀ v, Below w.heap.size w v → Calls Tryd.prog 29 #[ua, ub] v fun r w' => r = .returned (.bool true) ∧ ∃ k, w' = v.drewN k := fun v b => eqA25 (hL.out k hkn) (U1.next b) (U2.next b)
      have BD : Below w.heap.size w wr.drew := below_drew B
      obtain ⟨xa, ya, rfl, _⟩ := U1
      obtain ⟨xb, yb, rfl, _⟩ := U2
      have i0 : (0 : Int) ≤ (k : Int) := by omega
      have i1 : (k : Int) < (m : Int) := by omega
      clear c1 c2
      go_wp2
      go_region_with (go_at_call 29; refine (h25 _ ?_).mono ?_; (focus (first | with_reducible exact BD | with_reducible exact B)); rintro e w2 ⟨rfl, q2, hw2⟩; (have B3 : Below wr.heap.size wr w2 := by rw [hw2]; first | exact below_drewN (below_drew (Below.refl _ _)) q2 | exact below_drewN (Below.refl _ _) q2); clear hw2)
      all_goals
        go_wp2
        go_roundw
        case rel => exact ⟨k + 1, by omega, by go_num, B.trans (B3.mono B.size)⟩
        case measure => simp [intOf]; omega
    · have hkk : k = m := by omega
      subst hkk
      go_wp2
      go_ret
      exact ⟨rfl, B⟩
/-- m rows of numbers, each of which may be written, no two at one place; their slices stand from ad on. -/
structure Gm (B : Nat) (w : World) (ad : Option Addr) (m : Nat) (S p o : Nat → Nat) (F : Nat → Nat → Int) : Prop where
  ptr : ∀ x, x < m → ∃ gc, ad = some ⟨gc, 0, none⟩ ∧ B ≤ gc ∧ (∃ a2 cp, w.cell? ⟨gc, x, none⟩ = some (.slice a2 (S x) cp) ∧ (0 < S x → a2 = some ⟨p x, o x, none⟩)) ∧ ∀ y i, y < m → i < S y → p y ≠ gc
  cel : ∀ x i, x < m → i < S x → w.cell? ⟨p x, o x + i, none⟩ = some (.int .i64 (F x i))
  fr : ∀ x i, x < m → i < S x → w.frozen? ⟨p x, o x + i, none⟩ = false
  ap : ∀ x y i j, x < m → y < m → i < S x → j < S y → p x = p y → o x + i = o y + j → x = y
  lo : ∀ x i, x < m → i < S x → B ≤ p x
theorem Gm.next {B : Nat} {w w' : World} {ad : Option Addr} {m : Nat} {S p o : Nat → Nat} {F : Nat → Nat → Int} (h : Gm B w ad m S p o F) (b : Below w.heap.size w w') : Gm B w' ad m S p o F := by
  refine ⟨fun x hx => ?_, fun x i hx hi => cell_nx (h.cel x i hx hi) b, fun x i hx hi => ?_, h.ap, h.lo⟩
  · obtain ⟨gc, h1, h2, ⟨a2, cp, h3, h4⟩, h5⟩ := h.ptr x hx
    exact ⟨gc, h1, h2, ⟨a2, cp, cell_nx h3 b, h4⟩, h5⟩
  · rw [b.frozen (p := ⟨p x, o x + i, none⟩) (World.block_lt_of_cell? _ _ (h.cel x i hx hi))]
    exact h.fr x i hx hi
theorem Gm.only {B q : Nat} {w w' : World} {ad : Option Addr} {m : Nat} {S p o : Nat → Nat} {F : Nat → Nat → Int} (h : Gm B w ad m S p o F) (b : Only q w w') (hq : q < B) : Gm B w' ad m S p o F := by
  refine ⟨fun x hx => ?_, fun x i hx hi => ?_, fun x i hx hi => ?_, h.ap, h.lo⟩
  · obtain ⟨gc, h1, h2, ⟨a2, cp, h3, h4⟩, h5⟩ := h.ptr x hx
    exact ⟨gc, h1, h2, ⟨a2, cp, (World.cell?_of_block (w := w) (a := ⟨gc, x, none⟩) (b.block gc (World.block_lt_of_cell? _ _ h3) (by omega))).trans h3, h4⟩, h5⟩
  · have := h.lo x i hx hi
    exact (World.cell?_of_block (w := w) (a := ⟨p x, o x + i, none⟩) (b.block (p x) (World.block_lt_of_cell? _ _ (h.cel x i hx hi)) (by omega))).trans (h.cel x i hx hi)
  · have := h.lo x i hx hi
    exact (World.frozen?_of_block (w := w) (a := ⟨p x, o x + i, none⟩) (b.block (p x) (World.block_lt_of_cell? _ _ (h.cel x i hx hi)) (by omega))).trans (h.fr x i hx hi)
/-- One number is written. -/
def upG (F : Nat → Nat → Int) (x i : Nat) (v : Int) : Nat → Nat → Int := fun y j => if y = x ∧ j = i then v else F y j
theorem Gm.set {B : Nat} {w : World} {ad : Option Addr} {m : Nat} {S p o : Nat → Nat} {F : Nat → Nat → Int} (h : Gm B w ad m S p o F) (x i : Nat) (hx : x < m) (hi : i < S x) (v : Int) : Gm B (w.setCell ⟨p x, o x + i, none⟩ (.int .i64 v)) ad m S p o (upG F x i v) := by
  refine ⟨fun y hy => ?_, fun y j hy hj => ?_, fun y j hy hj => by simp [h.fr y j hy hj], h.ap, h.lo⟩
  · obtain ⟨gc, h1, h2, ⟨a2, cp, h3, h4⟩, h5⟩ := h.ptr y hy
    exact ⟨gc, h1, h2, ⟨a2, cp, by rw [World.cell?_setCell_other (h := addr_ne' (h5 x i hx hi))]; exact h3, h4⟩, h5⟩
  · unfold upG
    by_cases e : y = x ∧ j = i
    · obtain ⟨rfl, rfl⟩ := e
      rw [if_pos ⟨rfl, rfl⟩]
      exact World.cell?_setCell_same' _ _ _ (by rw [h.cel y j hy hj]; rfl)
    · rw [if_neg e]
      have hne : (⟨p x, o x + i, none⟩ : Addr) ≠ ⟨p y, o y + j, none⟩ := fun q => by
        injection q with q1 q2
        have := h.ap x y i j hx hy hi hj q1 q2
        subst this
        exact e ⟨rfl, by omega⟩
      rw [World.cell?_setCell_other (h := hne)]
      exact h.cel y j hy hj
set_option maxRecDepth 100000 in
set_option maxHeartbeats 4000000 in
theorem mark27 {B : Nat} {w : World} {ad : Option Addr} {m : Nat} {S p o : Nat → Nat} {F : Nat → Nat → Int} (G : Gm B w ad m S p o F) (x : Nat) (hx : x < m) (a2 : Option Addr) (cp : Nat) (h2 : 0 < S x → a2 = some ⟨p x, o x, none⟩) (k0 : Nat) (hk0 : k0 ≤ 10000000) (hS : S x ≤ 1048576) : Calls Tryd.prog 30 #[.slice a2 (S x) cp, .int .i64 (k0 : Int)] w fun r w' => r = .returned (.int .i64 ((k0 + S x : Nat) : Int)) ∧ (∃ F', Gm B w' ad m S p o F' ∧ (∀ i, i < S x → F' x i = ((k0 + i : Nat) : Int)) ∧ ∀ y i, y ≠ x → F' y i = F y i) ∧ Below B w w' := by
  have H2 := Hid.mk h2
  have HG := Hid.mk G
  have HLo : Hid (∀ i, i < S x → B ≤ p x) := fun i hi => G.lo x i hx hi
  obtain ⟨n, hn⟩ : ∃ n, S x = n := ⟨_, rfl⟩
  have HN : Hid (S x = n) := hn
  rw [hn] at hS ⊢
  clear h2 G hn
  go_enter Tryd.func30, Tryd.ntmps30
  go_wp2
  go_loopw [1, 5] (fun q i wr => ∃ (k : Nat) (F' : Nat → Nat → Int), k ≤ n ∧ i = .int .i64 k ∧ q = .int .i64 ((k0 + k : Nat) : Int) ∧ Hid (Gm B wr ad m S p o F') ∧ Hid (∀ i, i < k → F' x i = ((k0 + i : Nat) : Int)) ∧ Hid (∀ y i, y ≠ x → F' y i = F y i) ∧ Hid (Below B w wr)) (fun _ i _ => n - (intOf i).toNat)
  case atStart => exact ⟨0, F, by omega, rfl, rfl, HG, fun i hi => by omega, fun _ _ _ => rfl, Below.refl _ _⟩
  case round =>
    obtain ⟨k, F', hk, rfl, rfl, GJ, FJ, OJ, BJ⟩ := hrel
    by_cases hkn : k < n
    · have i1 : (k : Int) < (n : Int) := by omega
      have i0 : (0 : Int) ≤ (k : Int) := by omega
      have hkS : k < S x := by rw [HN.out]; exact hkn
      obtain rfl := H2.out (by omega)
      obtain ⟨s, hs⟩ : ∃ s : Nat, k0 + k = s := ⟨_, rfl⟩
      rw [hs]
      have s1 : (s : Int) < 4294967296 := by omega
      have s0 : (0 : Int) ≤ (s : Int) := by omega
      have HS : Hid (k0 + k = s) := hs
      have f0 := GJ.out.fr x k hx hkS
      have g0 := GJ.out.cel x k hx hkS
      have GN : Hid (Gm B (wr.setCell ⟨p x, o x + k, none⟩ (.int .i64 (s : Int))) ad m S p o (upG F' x k (s : Int))) := GJ.out.set x k hx hkS _
      have FN : Hid (∀ i, i < k + 1 → upG F' x k (s : Int) x i = ((k0 + i : Nat) : Int)) := fun i hi => by
        unfold upG
        by_cases e : i = k
        · subst e; rw [if_pos ⟨rfl, rfl⟩, HS.out]
        · rw [if_neg (fun q => e q.2)]; exact FJ.out i (by omega)
      have ON : Hid (∀ y i, y ≠ x → upG F' x k (s : Int) y i = F y i) := fun y i hy => by
        unfold upG
        rw [if_neg (fun q => hy q.1)]
        exact OJ.out y i hy
      have BN : Hid (Below B w (wr.setCell ⟨p x, o x + k, none⟩ (.int .i64 (s : Int)))) := BJ.out.setCell (p := ⟨p x, _, none⟩) (HLo.out k hkS) _
      clear hs GJ FJ OJ BJ
      go_wp2
      go_roundw
      case rel => exact ⟨k + 1, _, by omega, by go_num, by have := HS.out; rw [show k0 + (k + 1) = s + 1 by omega]; go_num, GN, FN, ON, BN⟩
      case measure => simp [intOf]; omega
    · have hkk : k = n := by omega
      subst hkk
      go_wp2
      go_ret
      exact ⟨rfl, ⟨F', GJ.out, fun i hi => FJ.out i hi, OJ.out⟩, BJ.out⟩
set_option maxRecDepth 100000 in
set_option maxHeartbeats 4000000 in
theorem mark13 {B : Nat} {w : World} {ad : Option Addr} {m : Nat} {S p o : Nat → Nat} {F : Nat → Nat → Int} (G : Gm B w ad m S p o F) (cp : Nat) (hm : m ≤ 1048576) (hT : offs S m ≤ 1000000) : Calls Tryd.prog 22 #[.slice ad m cp, .int .i64 1] w fun r w' => r = .returned (.int .i64 ((1 + offs S m : Nat) : Int)) ∧ (∃ F', Gm B w' ad m S p o F' ∧ ∀ x i, x < m → i < S x → F' x i = ((1 + offs S x + i : Nat) : Int)) ∧ Below B w w' := by
  have HG := Hid.mk G
  have HT := Hid.mk hT
  clear G hT
  go_enter Tryd.func22, Tryd.ntmps22
  go_wp2
  go_loopw [1, 5] (fun q i wr => ∃ (k : Nat) (F' : Nat → Nat → Int), k ≤ m ∧ i = .int .i64 k ∧ q = .int .i64 ((1 + offs S k : Nat) : Int) ∧ Hid (Gm B wr ad m S p o F') ∧ Hid (∀ x i, x < k → i < S x → F' x i = ((1 + offs S x + i : Nat) : Int)) ∧ Hid (Below B w wr)) (fun _ i _ => m - (intOf i).toNat)
  case atStart => exact ⟨0, F, by omega, rfl, rfl, HG, fun x i hx => by omega, Below.refl _ _⟩
  case round =>
    obtain ⟨k, F', hk, rfl, rfl, GJ, FJ, BJ⟩ := hrel
    by_cases hkn : k < m
    · have i1 : (k : Int) < (m : Int) := by omega
      have i0 : (0 : Int) ≤ (k : Int) := by omega
      have hle := offs_lt S hkn
      have hT := HT.out
      obtain ⟨gc, rfl, _, ⟨a2, c2, ck, h2⟩, _⟩ := GJ.out.ptr k hkn
      have h27 := mark27 GJ.out k hkn a2 c2 h2 (1 + offs S k) (by omega) (by omega)
      have HO : Hid (offs S (k + 1) = offs S k + S k) := rfl
      generalize hsk : S k = sk at h27 ck
      have HSK : Hid (S k = sk) := hsk
      generalize hof : offs S k = ok at h27
      have HOK : Hid (offs S k = ok) := hof
      clear hsk hof h2 hle hT
      go_wp2_with (go_at_call 30; refine h27.mono ?_; rintro e w2 ⟨rfl, ⟨F2, G2, F2a, F2b⟩, B2⟩)
      have GN : Hid (Gm B w2 (some ⟨gc, 0, none⟩) m S p o F2) := G2
      have FN : Hid (∀ x i, x < k + 1 → i < S x → F2 x i = ((1 + offs S x + i : Nat) : Int)) := fun x i hx hi => by
        by_cases e : x = k
        · subst e
          rw [F2a i (by rw [← HSK.out]; exact hi), HOK.out]
        · rw [F2b x i e]
          exact FJ.out x i (by omega) hi
      have BN : Hid (Below B w w2) := BJ.out.trans B2
      clear G2 F2a F2b B2 GJ FJ BJ h27
      go_roundw
      case rel => exact ⟨k + 1, F2, by omega, by go_num, by rw [HO.out, HSK.out, HOK.out]; (first | rfl | (congr 2; omega)), GN, FN, BN⟩
      case measure => simp [intOf]; omega
    · have hkk : k = m := by omega
      subst hkk
      go_wp2
      go_ret
      exact ⟨rfl, ⟨F', GJ.out, FJ.out⟩, BJ.out⟩
set_option maxRecDepth 100000 in
set_option maxHeartbeats 4000000 in
theorem held28 (n : Nat) (a2 : Option Addr) (cp g o k0 : Nat) (w : World) (h0 : 0 < n → a2 = some ⟨g, o, none⟩) (hc : ∀ i, i < n → w.cell? ⟨g, o + i, none⟩ = some (.int .i64 ((k0 + i : Nat) : Int))) (hk0 : k0 ≤ 10000000) (hn : n ≤ 1048576) : Calls Tryd.prog 47 #[.slice a2 n cp, .int .i64 (k0 : Int)] w fun r w' => r = .returned (.int .i64 ((k0 + n : Nat) : Int)) ∧ w' = w := by
  have H0 := Hid.mk h0
  have HC := Hid.mk hc
  clear h0 hc
  go_enter Tryd.func47, Tryd.ntmps47
  go_wp2
  go_loop [1, 5] (fun q i => ∃ k : Nat, k ≤ n ∧ i = .int .i64 k ∧ q = .int .i64 ((k0 + k : Nat) : Int)) (fun _ i => n - (intOf i).toNat)
  case atStart => exact ⟨0, by omega, rfl, rfl⟩
  case round =>
    obtain ⟨k, hk, rfl, rfl⟩ := hrel
    by_cases hkn : k < n
    · have i1 : (k : Int) < (n : Int) := by omega
      have i0 : (0 : Int) ≤ (k : Int) := by omega
      obtain rfl := H0.out (by omega)
      have ck := HC.out k hkn
      obtain ⟨s, hs⟩ : ∃ s : Nat, k0 + k = s := ⟨_, rfl⟩
      rw [hs] at ck ⊢
      have s1 : (s : Int) < 4294967296 := by omega
      have s0 : (0 : Int) ≤ (s : Int) := by omega
      have HS : Hid (k0 + k = s) := hs
      clear hs
      go_wp2
      go_round
      case rel => exact ⟨k + 1, by omega, by go_num, by have := HS.out; rw [show k0 + (k + 1) = s + 1 by omega]; go_num⟩
      case measure => simp [intOf]; omega
    · have hkk : k = n := by omega
      subst hkk
      go_wp2
      go_ret
      exact ⟨rfl, rfl⟩
set_option maxRecDepth 100000 in
set_option maxHeartbeats 4000000 in
theorem held14 {B : Nat} {w : World} {ad : Option Addr} {m : Nat} {S p o : Nat → Nat} {F : Nat → Nat → Int} (G : Gm B w ad m S p o F) (hF : ∀ x i, x < m → i < S x → F x i = ((1 + offs S x + i : Nat) : Int)) (cp : Nat) (hm : m ≤ 1048576) (hT : offs S m ≤ 1000000) : Calls Tryd.prog 23 #[.slice ad m cp, .int .i64 1] w fun r w' => r = .returned (.int .i64 ((1 + offs S m : Nat) : Int)) ∧ w' = w := by
  have HG := Hid.mk G
  have HT := Hid.mk hT
  have HF := Hid.mk hF
  clear G hT hF
  go_enter Tryd.func23, Tryd.ntmps23
  go_wp2
  go_loop [1, 5] (fun q i => ∃ k : Nat, k ≤ m ∧ i = .int .i64 k ∧ q = .int .i64 ((1 + offs S k : Nat) : Int)) (fun _ i => m - (intOf i).toNat)
  case atStart => exact ⟨0, by omega, rfl, rfl⟩
  case round =>
    obtain ⟨k, hk, rfl, rfl⟩ := hrel
    by_cases hkn : k < m
    · have i1 : (k : Int) < (m : Int) := by omega
      have i0 : (0 : Int) ≤ (k : Int) := by omega
      have hle := offs_lt S hkn
      have hT := HT.out
      obtain ⟨gc, rfl, _, ⟨a2, c2, ck, h2⟩, _⟩ := HG.out.ptr k hkn
      have h28 := held28 (S k) a2 c2 (p k) (o k) (1 + offs S k) w h2 (fun i hi => by rw [HG.out.cel k i hkn hi, HF.out k i hkn hi]) (by omega) (by omega)
      have HO : Hid (offs S (k + 1) = offs S k + S k) := rfl
      generalize hsk : S k = sk at h28 ck
      have HSK : Hid (S k = sk) := hsk
      generalize hof : offs S k = ok at h28
      have HOK : Hid (offs S k = ok) := hof
      have z0 : ¬ ((1 + ok + sk : Nat) : Int) < 0 := by omega
      obtain ⟨zz, hzz⟩ : ∃ zz : Int, ((1 + ok + sk : Nat) : Int) = zz := ⟨_, rfl⟩
      have HZZ : Hid (((1 + ok + sk : Nat) : Int) = zz) := hzz
      rw [hzz] at h28 z0
      clear hsk hof h2 hle hT hzz
      go_wp2_with (go_at_call 47; refine h28.mono ?_; rintro e w2 ⟨rfl, hw2⟩; subst w2)
      go_round
      case rel => exact ⟨k + 1, by omega, by go_num, by rw [HO.out, HSK.out, HOK.out, ← HZZ.out]; (first | rfl | (congr 2; omega))⟩
      case measure => simp [intOf]; omega
    · have hkk : k = m := by omega
      subst hkk
      go_wp2
      go_ret
      exact ⟨rfl, rfl⟩
/-- What a function answers: rows of its own. -/
def Ans (B : Nat) (w : World) (u : Value) (m : Nat) (L : Nat → List Int) : Prop := ∃ ad cp p o, u = .slice ad m cp ∧ Gm B w ad m (fun x => (L x).length) p o (fun x i => (L x).getD i 0)
theorem Ans.next {B : Nat} {w w' : World} {u : Value} {m : Nat} {L : Nat → List Int} (h : Ans B w u m L) (b : Below w.heap.size w w') : Ans B w' u m L := by
  obtain ⟨ad, cp, p, o, h1, h2⟩ := h
  exact ⟨ad, cp, p, o, h1, h2.next b⟩
theorem Ans.only {B q : Nat} {w w' : World} {u : Value} {m : Nat} {L : Nat → List Int} (h : Ans B w u m L) (b : Only q w w') (hq : q < B) : Ans B w' u m L := by
  obtain ⟨ad, cp, p, o, h1, h2⟩ := h
  exact ⟨ad, cp, p, o, h1, h2.only b hq⟩
theorem Ans.arows {B : Nat} {w : World} {u : Value} {m : Nat} {L : Nat → List Int} (h : Ans B w u m L) : ARows w u m L := by
  obtain ⟨ad, cp, p, o, h1, h2⟩ := h
  refine ⟨ad, cp, h1, fun x hx => ?_⟩
  obtain ⟨gc, a1, _, ⟨a2, c2, a3, a4⟩, _⟩ := h2.ptr x hx
  refine ⟨gc, 0, _, a1, by rw [Nat.zero_add]; exact a3, a2, c2, rfl, fun i hi => ⟨p x, o x, a4 (by show 0 < (L x).length; omega), h2.cel x i hx hi⟩⟩
end Go.Proofs.YtcgapochcahknaaDoor
