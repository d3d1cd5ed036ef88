/- What the laws hold, by sets of blocks: marks of one answer leave the others as they are. -/
import Derived.Test.YtfhpjcojccfcoaaCa
namespace Go.Proofs.Ytfhpjcojccfcoaa
open Go.ChangeShapes Go.WideShapes Go.ChangeAt Go.RowKit
set_option linter.unusedVariables false
/-- Only blocks of a set have changed. -/
structure Bs (P : Nat → Prop) (w w' : World) : Prop where
  os : w'.os = w.os
  tape : w'.tape = w.tape
  output : w'.output = w.output
  size : w.heap.size ≤ w'.heap.size
  block : ∀ k, k < w.heap.size → ¬ P k → w'.heap[k]? = w.heap[k]?
theorem Bs.refl (P : Nat → Prop) (w : World) : Bs P w w := ⟨rfl, rfl, rfl, Nat.le_refl _, fun _ _ _ => rfl⟩
theorem Bs.trans {P : Nat → Prop} {a b c : World} (h : Bs P a b) (k : Bs P b c) : Bs P a c := ⟨k.os.trans h.os, k.tape.trans h.tape, k.output.trans h.output, Nat.le_trans h.size k.size, fun i hi q => (k.block i (by have := h.size; omega) q).trans (h.block i hi q)⟩
theorem Bs.setCell {P : Nat → Prop} {a w : World} {g : Nat} (h : Bs P a w) (h1 : P g) (j : Nat) (v : Value) : Bs P a (w.setCell ⟨g, j, none⟩ v) := h.trans ⟨rfl, rfl, rfl, by simp [World.setCell], fun k _ hk => Below.heap_setCell _ _ _ _ (by show k ≠ g; exact fun e => hk (e ▸ h1))⟩
theorem Bs.mono {P Q : Nat → Prop} {a w : World} (h : Bs P a w) (q : ∀ k, P k → Q k) : Bs Q a w := ⟨h.os, h.tape, h.output, h.size, fun k hk n => h.block k hk (fun e => n (q k e))⟩
theorem Bs.below {P : Nat → Prop} {a w : World} (h : Bs P a w) (lo : Nat) (q : ∀ k, P k → lo ≤ k) (hs : lo ≤ a.heap.size) : Below lo a w := ⟨h.os, h.tape, h.output, h.size, fun k hk => h.block k (by omega) (fun e => by have := q k e; omega)⟩
theorem Bs.only {P : Nat → Prop} {o : Nat} {a w : World} (h : Only o a w) (hp : P o) : Bs P a w := ⟨h.os, h.tape, h.output, h.size, fun k hk q => h.block k hk (fun e => q (e ▸ hp))⟩
theorem Bs.ofBelow {P : Nat → Prop} {a w : World} (h : Below a.heap.size a w) : Bs P a w := ⟨h.os, h.tape, h.output, h.size, fun k hk _ => h.block k hk⟩
theorem Bs.cell {P : Nat → Prop} {w w' : World} (b : Bs P w w') {g i : Nat} {v : Value} (h : w.cell? ⟨g, i, none⟩ = some v) (q : ¬ P g) : w'.cell? ⟨g, i, none⟩ = some v := (World.cell?_of_block (w := w) (a := ⟨g, i, none⟩) (b.block g (World.block_lt_of_cell? _ _ h) q)).trans h
theorem Bs.frozen {P : Nat → Prop} {w w' : World} (b : Bs P w w') {g i : Nat} (h : g < w.heap.size) (q : ¬ P g) : w'.frozen? ⟨g, i, none⟩ = w.frozen? ⟨g, i, none⟩ := World.frozen?_of_block (w := w) (a := ⟨g, i, none⟩) (b.block g h q)
theorem C6.bs {P : Nat → Prop} {w w' : World} {b : Nat} {v0 v1 v2 v3 v4 v5 : Value} (h : C6 w b v0 v1 v2 v3 v4 v5) (k : Bs P w w') (q : ¬ P b) : C6 w' b v0 v1 v2 v3 v4 v5 := h.block (k.block b h.hi q) k.size
theorem C3.bs {P : Nat → Prop} {w w' : World} {b : Nat} {v0 v1 v2 : Value} (h : C3 w b v0 v1 v2) (k : Bs P w w') (q : ¬ P b) : C3 w' b v0 v1 v2 := h.block (k.block b h.hi q) k.size
theorem Own.bs {P : Nat → Prop} {w w' : World} {g n : Nat} {f : Nat → Value} (O : Own w g n f) (k : Bs P w w') (q : ¬ P g) : Own w' g n f := ⟨fun i hi => k.cell (O.cell i hi) q, fun i => (k.frozen O.hi q).trans (O.free i), by have := k.size; have := O.hi; omega⟩
/-- Blocks from lo to hi of one kind. -/
def Rg (lo hi : Nat) (R : Nat → Prop) (k : Nat) : Prop := lo ≤ k ∧ k < hi ∧ R k
set_option maxRecDepth 100000 in
set_option maxHeartbeats 4000000 in
theorem markS1 {B : Nat} {w : World} {ad : Option Addr} {m : Nat} {S p o : Nat → Nat} {F : Nat → Nat → Int} (G : Gm B w ad m S p o F) (x : Nat) (hx : x < m) (a2 : Option Addr) (cp : Nat) (h2 : 0 < S x → a2 = some ⟨p x, o x, none⟩) (k0 : Nat) (hk0 : k0 ≤ 10000000) (hS : S x ≤ 1048576) (P : Nat → Prop) (hhi : ∀ x i, x < m → i < S x → P (p x)) : Calls Try.prog 21 #[.slice a2 (S x) cp, .int .i64 (k0 : Int)] w fun r w' => r = .returned (.int .i64 ((k0 + S x : Nat) : Int)) ∧ (∃ F', Gm B w' ad m S p o F' ∧ (∀ i, i < S x → F' x i = ((k0 + i : Nat) : Int)) ∧ ∀ y i, y ≠ x → F' y i = F y i) ∧ Bs P w w' := by
  have H2 := Hid.mk h2
  have HG := Hid.mk G
  have HLo : Hid (∀ i, i < S x → P (p x)) := fun i hi => hhi x i hx hi
  obtain ⟨n, hn⟩ : ∃ n, S x = n := ⟨_, rfl⟩
  have HN : Hid (S x = n) := hn
  rw [hn] at hS ⊢
  clear h2 G hn hhi
  go_enter Try.func21, Try.ntmps21
  go_wp2
  go_loopw [1, 5] (fun q i wr => ∃ (k : Nat) (F' : Nat → Nat → Int), k ≤ n ∧ i = .int .i64 k ∧ q = .int .i64 ((k0 + k : Nat) : Int) ∧ Hid (Gm B wr ad m S p o F') ∧ Hid (∀ i, i < k → F' x i = ((k0 + i : Nat) : Int)) ∧ Hid (∀ y i, y ≠ x → F' y i = F y i) ∧ Hid (Bs P w wr)) (fun _ i _ => n - (intOf i).toNat)
  case atStart => exact ⟨0, F, by omega, rfl, rfl, HG, fun i hi => by omega, fun _ _ _ => rfl, Bs.refl _ _⟩
  case round =>
    obtain ⟨k, F', hk, rfl, rfl, GJ, FJ, OJ, BJ⟩ := hrel
    by_cases hkn : k < n
    · have i1 : (k : Int) < (n : Int) := by omega
      have i0 : (0 : Int) ≤ (k : Int) := by omega
      have hkS : k < S x := by rw [HN.out]; exact hkn
      obtain rfl := H2.out (by omega)
      obtain ⟨s, hs⟩ : ∃ s : Nat, k0 + k = s := ⟨_, rfl⟩
      rw [hs]
      have s1 : (s : Int) < 4294967296 := by omega
      have s0 : (0 : Int) ≤ (s : Int) := by omega
      have HS : Hid (k0 + k = s) := hs
      have f0 := GJ.out.fr x k hx hkS
      have g0 := GJ.out.cel x k hx hkS
      have GN : Hid (Gm B (wr.setCell ⟨p x, o x + k, none⟩ (.int .i64 (s : Int))) ad m S p o (upG F' x k (s : Int))) := GJ.out.set x k hx hkS _
      have FN : Hid (∀ i, i < k + 1 → upG F' x k (s : Int) x i = ((k0 + i : Nat) : Int)) := fun i hi => by
        unfold upG
        by_cases e : i = k
        · subst e; rw [if_pos ⟨rfl, rfl⟩, HS.out]
        · rw [if_neg (fun q => e q.2)]; exact FJ.out i (by omega)
      have ON : Hid (∀ y i, y ≠ x → upG F' x k (s : Int) y i = F y i) := fun y i hy => by
        unfold upG
        rw [if_neg (fun q => hy q.1)]
        exact OJ.out y i hy
      have BN : Hid (Bs P w (wr.setCell ⟨p x, o x + k, none⟩ (.int .i64 (s : Int)))) := BJ.out.setCell (HLo.out k hkS) _ _
      clear hs GJ FJ OJ BJ
      go_wp2
      go_roundw
      case rel => exact ⟨k + 1, _, by omega, by go_num, by have := HS.out; rw [show k0 + (k + 1) = s + 1 by omega]; go_num, GN, FN, ON, BN⟩
      case measure => simp [intOf]; omega
    · have hkk : k = n := by omega
      subst hkk
      go_wp2
      go_ret
      exact ⟨rfl, ⟨F', GJ.out, fun i hi => FJ.out i hi, OJ.out⟩, BJ.out⟩
set_option maxRecDepth 100000 in
set_option maxHeartbeats 4000000 in
theorem markS {B : Nat} {w : World} {ad : Option Addr} {m : Nat} {S p o : Nat → Nat} {F : Nat → Nat → Int} (G : Gm B w ad m S p o F) (cp : Nat) (hm : m ≤ 1048576) (P : Nat → Prop) (hhi : ∀ x i, x < m → i < S x → P (p x)) (k0 : Nat) (hT : k0 + offs S m ≤ 9000000) (hSl : ∀ x, x < m → S x ≤ 1048576) : Calls Try.prog 57 #[.slice ad m cp, .int .i64 (k0 : Int)] w fun r w' => r = .returned (.int .i64 ((k0 + offs S m : Nat) : Int)) ∧ (∃ F', Gm B w' ad m S p o F' ∧ ∀ x i, x < m → i < S x → F' x i = ((k0 + offs S x + i : Nat) : Int)) ∧ Bs P w w' := by
  have HG := Hid.mk G
  have HT := Hid.mk hT
  have HSl := Hid.mk hSl
  have HHI := Hid.mk hhi
  clear G hT hSl hhi
  go_enter Try.func57, Try.ntmps57
  go_wp2
  go_loopw [1, 5] (fun q i wr => ∃ (k : Nat) (F' : Nat → Nat → Int), k ≤ m ∧ i = .int .i64 k ∧ q = .int .i64 ((k0 + offs S k : Nat) : Int) ∧ Hid (Gm B wr ad m S p o F') ∧ Hid (∀ x i, x < k → i < S x → F' x i = ((k0 + offs S x + i : Nat) : Int)) ∧ Hid (Bs P w wr)) (fun _ i _ => m - (intOf i).toNat)
  case atStart => exact ⟨0, F, by omega, rfl, rfl, HG, fun x i hx => by omega, Bs.refl _ _⟩
  case round =>
    obtain ⟨k, F', hk, rfl, rfl, GJ, FJ, BJ⟩ := hrel
    by_cases hkn : k < m
    · have i1 : (k : Int) < (m : Int) := by omega
      have i0 : (0 : Int) ≤ (k : Int) := by omega
      have hle := offs_lt S hkn
      have hT := HT.out
      obtain ⟨gc, rfl, _, ⟨a2, c2, ck, h2⟩, _⟩ := GJ.out.ptr k hkn
      have h27 := markS1 GJ.out k hkn a2 c2 h2 (k0 + offs S k) (by omega) (HSl.out k hkn) P HHI.out
      have HO : Hid (offs S (k + 1) = offs S k + S k) := rfl
      generalize hsk : S k = sk at h27 ck
      have HSK : Hid (S k = sk) := hsk
      generalize hof : offs S k = ok at h27
      have HOK : Hid (offs S k = ok) := hof
      clear hsk hof h2 hle hT
      go_wp2_with (go_at_call 21; refine h27.mono ?_; rintro e w2 ⟨rfl, ⟨F2, G2, F2a, F2b⟩, B2⟩)
      have GN : Hid (Gm B w2 (some ⟨gc, 0, none⟩) m S p o F2) := G2
      have FN : Hid (∀ x i, x < k + 1 → i < S x → F2 x i = ((k0 + offs S x + i : Nat) : Int)) := fun x i hx hi => by
        by_cases e : x = k
        · subst e
          rw [F2a i (by rw [← HSK.out]; exact hi), HOK.out]
        · rw [F2b x i e]
          exact FJ.out x i (by omega) hi
      have BN : Hid (Bs P w w2) := BJ.out.trans B2
      clear G2 F2a F2b B2 GJ FJ BJ h27
      go_roundw
      case rel => exact ⟨k + 1, F2, by omega, by go_num, by rw [HO.out, HSK.out, HOK.out]; (first | rfl | (congr 2; omega)), GN, FN, BN⟩
      case measure => simp [intOf]; omega
    · have hkk : k = m := by omega
      subst hkk
      go_wp2
      go_ret
      exact ⟨rfl, ⟨F', GJ.out, FJ.out⟩, BJ.out⟩
/-- Rows of a call's own in blocks of a set. -/
def Ay (P : Nat → Prop) (w : World) (u : Value) (m : Nat) (L : Nat → List Int) : Prop := ∃ ad cp p o, u = .slice ad m cp ∧ Gm 0 w ad m (fun x => (L x).length) p o (fun x i => (L x).getD i 0) ∧ (∀ gc, 0 < m → ad = some ⟨gc, 0, none⟩ → P gc) ∧ ∀ x i, x < m → i < (L x).length → P (p x)
theorem Ay.arows {P : Nat → Prop} {w : World} {u : Value} {m : Nat} {L : Nat → List Int} (h : Ay P w u m L) : ARows w u m L := by
  obtain ⟨ad, cp, p, o, h1, h2, _, _⟩ := h
  exact Ans.arows ⟨ad, cp, p, o, h1, h2⟩
theorem Ay.next {P : Nat → Prop} {w w' : World} {u : Value} {m : Nat} {L : Nat → List Int} (h : Ay P w u m L) (b : Below w.heap.size w w') : Ay P w' u m L := by
  obtain ⟨ad, cp, p, o, h1, h2, h3, h4⟩ := h
  exact ⟨ad, cp, p, o, h1, h2.next b, h3, h4⟩
theorem Ay.mono {P Q : Nat → Prop} {w : World} {u : Value} {m : Nat} {L : Nat → List Int} (h : Ay P w u m L) (q : ∀ k, P k → Q k) : Ay Q w u m L := by
  obtain ⟨ad, cp, p, o, h1, h2, h3, h4⟩ := h
  exact ⟨ad, cp, p, o, h1, h2, fun gc hm e => q _ (h3 gc hm e), fun x i hx hi => q _ (h4 x i hx hi)⟩
theorem Gm.bs {B : Nat} {P Q : Nat → Prop} {w w' : World} {ad : Option Addr} {m : Nat} {S p o : Nat → Nat} {F : Nat → Nat → Int} (h : Gm B w ad m S p o F) (k : Bs Q w w') (h3 : ∀ gc, 0 < m → ad = some ⟨gc, 0, none⟩ → P gc) (h4 : ∀ x i, x < m → i < S x → P (p x)) (q : ∀ k, P k → ¬ Q k) : Gm B w' ad m S p o F := by
  refine ⟨fun x hx => ?_, fun x i hx hi => k.cell (h.cel x i hx hi) (q _ (h4 x i hx hi)), fun x i hx hi => ?_, h.ap, h.lo⟩
  · obtain ⟨gc, h1, h2, ⟨a2, cp, h5, h6⟩, h7⟩ := h.ptr x hx
    exact ⟨gc, h1, h2, ⟨a2, cp, k.cell h5 (q _ (h3 gc (by omega) h1)), h6⟩, h7⟩
  · rw [k.frozen (World.block_lt_of_cell? _ _ (h.cel x i hx hi)) (q _ (h4 x i hx hi))]
    exact h.fr x i hx hi
theorem Ay.bs {P Q : Nat → Prop} {w w' : World} {u : Value} {m : Nat} {L : Nat → List Int} (h : Ay P w u m L) (k : Bs Q w w') (q : ∀ k, P k → ¬ Q k) : Ay P w' u m L := by
  obtain ⟨ad, cp, p, o, h1, h2, h3, h4⟩ := h
  exact ⟨ad, cp, p, o, h1, h2.bs k h3 h4 q, h3, h4⟩
/-- .. with their marks. -/
def My (P : Nat → Prop) (w : World) (u : Value) (m : Nat) (L : Nat → List Int) (k0 : Nat) : Prop := ∃ ad cp p o F, u = .slice ad m cp ∧ Gm 0 w ad m (fun x => (L x).length) p o F ∧ (∀ gc, 0 < m → ad = some ⟨gc, 0, none⟩ → P gc) ∧ (∀ x i, x < m → i < (L x).length → P (p x)) ∧ ∀ x i, x < m → i < (L x).length → F x i = ((k0 + offs (fun x => (L x).length) x + i : Nat) : Int)
theorem My.next {P : Nat → Prop} {k0 : Nat} {w w' : World} {u : Value} {m : Nat} {L : Nat → List Int} (h : My P w u m L k0) (b : Below w.heap.size w w') : My P w' u m L k0 := by
  obtain ⟨ad, cp, p, o, F, h1, h2, h3, h4, h5⟩ := h
  exact ⟨ad, cp, p, o, F, h1, h2.next b, h3, h4, h5⟩
theorem My.bs {P Q : Nat → Prop} {k0 : Nat} {w w' : World} {u : Value} {m : Nat} {L : Nat → List Int} (h : My P w u m L k0) (k : Bs Q w w') (q : ∀ k, P k → ¬ Q k) : My P w' u m L k0 := by
  obtain ⟨ad, cp, p, o, F, h1, h2, h3, h4, h5⟩ := h
  exact ⟨ad, cp, p, o, F, h1, h2.bs k h3 h4 q, h3, h4, h5⟩
theorem Ax.ay {lo hi : Nat} {w : World} {u : Value} {m : Nat} {L : Nat → List Int} (h : Ax lo hi w u m L) : Ay (Rg lo hi (fun _ => True)) w u m L := by
  obtain ⟨ad, cp, p, o, h1, h2, h3, h4⟩ := h
  refine ⟨ad, cp, p, o, h1, ⟨fun x hx => ?_, h2.cel, h2.fr, h2.ap, fun _ _ _ _ => Nat.zero_le _⟩, fun gc hm e => ?_, fun x i hx hi => ⟨h2.lo x i hx hi, h4 x i hx hi, trivial⟩⟩
  · obtain ⟨gc, h5, _, h6⟩ := h2.ptr x hx
    exact ⟨gc, h5, Nat.zero_le _, h6⟩
  · obtain ⟨gc', h5, h6, _⟩ := h2.ptr 0 hm
    have e2 : gc' = gc := by rw [h5] at e; injection e with e; injection e
    exact ⟨by omega, h3 gc hm e, trivial⟩
set_option maxRecDepth 100000 in
theorem markcacheS {P : Nat → Prop} {w : World} {u : Value} {m : Nat} {L : Nat → List Int} (s y l p c : Int) (h : Ay P w u m L) (hm : m ≤ 1048576) (k0 : Nat) (hT : k0 + tot L m ≤ 9000000) (hl : ∀ x, x < m → (L x).length ≤ 1048576) : Calls Try.prog 26 #[.agg #[.int .i64 s, .int .i64 y, .int .i64 l, .int .i64 p, u, .int .i64 c], .int .i64 (k0 : Int)] w fun r w' => r = .returned (.int .i64 ((k0 + tot L m : Nat) : Int)) ∧ My P w' u m L k0 ∧ Bs P w w' := by
  have B1 : Below w.heap.size w (w.alloc (.cells #[.int .i64 s, .int .i64 y, .int .i64 l, .int .i64 p, u, .int .i64 c] 42)) := alloc_b
  obtain ⟨ad, cp, pp, o, rfl, h2, h3, h4⟩ := h.next B1
  have h57 := markS h2 cp hm P h4 k0 hT hl
  have HB1 : Hid (Bs P w (w.alloc (.cells #[.int .i64 s, .int .i64 y, .int .i64 l, .int .i64 p, .slice ad m cp, .int .i64 c] 42))) := Bs.ofBelow B1
  have H3 := Hid.mk h3
  have H4 := Hid.mk h4
  have HE : Hid (k0 + offs (fun x => (L x).length) m = k0 + tot L m) := rfl
  rw [HE.out] at h57
  generalize ((k0 + tot L m : Nat) : Int) = z at h57 ⊢
  clear h B1 h2 h3 h4
  go_enter Try.func26, Try.ntmps26
  go_wp2_with (go_at_call 57; refine h57.mono ?_; rintro e w2 ⟨rfl, ⟨F2, G2, F2a⟩, B2⟩)
  go_ret
  exact ⟨rfl, ⟨ad, cp, pp, o, F2, rfl, G2, H3.out, H4.out, F2a⟩, HB1.out.trans B2⟩
set_option maxRecDepth 100000 in
theorem heldcacheS {P : Nat → Prop} {w : World} {u : Value} {m : Nat} {L : Nat → List Int} (s y l p c : Int) (k0 : Nat) (h : My P w u m L k0) (hm : m ≤ 1048576) (hT : k0 + tot L m ≤ 9000000) (hl : ∀ x, x < m → (L x).length ≤ 1048576) : Calls Try.prog 27 #[.agg #[.int .i64 s, .int .i64 y, .int .i64 l, .int .i64 p, u, .int .i64 c], .int .i64 (k0 : Int)] w fun r w' => r = .returned (.int .i64 ((k0 + tot L m : Nat) : Int)) ∧ Below w.heap.size w w' := by
  have B1 : Below w.heap.size w (w.alloc (.cells #[.int .i64 s, .int .i64 y, .int .i64 l, .int .i64 p, u, .int .i64 c] 42)) := alloc_b
  obtain ⟨ad, cp, pp, o, F, rfl, h2, _, _, h5⟩ := h.next B1
  have h57 := heldG h2 k0 h5 cp hm hT hl
  have HE : Hid (k0 + offs (fun x => (L x).length) m = k0 + tot L m) := rfl
  rw [HE.out] at h57
  have HB1 := Hid.mk B1
  have z0 : ¬ ((k0 + tot L m : Nat) : Int) < 0 := by omega
  generalize ((k0 + tot L m : Nat) : Int) = z at h57 z0 ⊢
  clear h B1 h2 h5
  go_enter Try.func27, Try.ntmps27
  go_wp2_with (go_at_call 58; refine h57.mono ?_; rintro e w2 ⟨rfl, hw⟩; subst w2)
  go_ret
  exact ⟨rfl, HB1.out⟩
/-- A row of whole numbers in a block of a set. -/
def Ny (P : Nat → Prop) (w : World) (v : Value) (f : Nat → Int) (n : Nat) : Prop := (n = 0 ∧ ∃ a c, v = .slice a 0 c) ∨ ∃ g c, v = .slice (some ⟨g, 0, none⟩) n c ∧ P g ∧ Own w g n (fun i => .int .i64 (f i))
theorem Ny.next {P : Nat → Prop} {w w' : World} {v : Value} {f : Nat → Int} {n : Nat} (h : Ny P w v f n) (b : Below w.heap.size w w') : Ny P w' v f n := by
  rcases h with h | ⟨g, c, hv, h1, O⟩
  · exact Or.inl h
  · exact Or.inr ⟨g, c, hv, h1, O.next b⟩
theorem Ny.bs {P Q : Nat → Prop} {w w' : World} {v : Value} {f : Nat → Int} {n : Nat} (h : Ny P w v f n) (b : Bs Q w w') (q : ∀ k, P k → ¬ Q k) : Ny P w' v f n := by
  rcases h with h | ⟨g, c, hv, h1, O⟩
  · exact Or.inl h
  · exact Or.inr ⟨g, c, hv, h1, O.bs b (q g h1)⟩
theorem Ny.slice {P : Nat → Prop} {w : World} {v : Value} {f : Nat → Int} {n : Nat} (h : Ny P w v f n) : ∃ a c, v = .slice a n c := by
  rcases h with ⟨h1, a, c, h2⟩ | ⟨g, c, hv, _⟩
  · subst h1; exact ⟨a, c, h2⟩
  · exact ⟨_, c, hv⟩
theorem Ny.nrow {P : Nat → Prop} {w : World} {v : Value} {f : Nat → Int} {n : Nat} (h : Ny P w v f n) : NRow w 0 w.heap.size v f n := by
  rcases h with h | ⟨g, c, hv, h1, O⟩
  · exact Or.inl h
  · exact Or.inr ⟨g, c, hv, Nat.zero_le _, O.hi, O⟩
theorem eqNY {P Q : Nat → Prop} {w : World} {u v : Value} {f : Nat → Int} {n : Nat} (U : Ny P w u f n) (V : Ny Q w v f n) (hn : n ≤ 1048576) : Calls Try.prog 20 #[u, v] w fun r w' => r = .returned (.bool true) ∧ Below w.heap.size w w' := eqNR U.nrow V.nrow hn
theorem markNY {P : Nat → Prop} {w : World} {u : Value} {f : Nat → Int} {n : Nat} (U : Ny P w u f n) (k0 : Nat) (hn : n ≤ 1048576) (hk : k0 ≤ 10000000) : Calls Try.prog 21 #[u, .int .i64 (k0 : Int)] w fun r w' => r = .returned (.int .i64 ((k0 + n : Nat) : Int)) ∧ Ny P w' u (fun i => ((k0 + i : Nat) : Int)) n ∧ Bs P w w' := by
  rcases U with ⟨rfl, a, c, rfl⟩ | ⟨g, c, rfl, h1, O⟩
  · exact (markN0 a c (k0 : Int) w).mono fun e w' ⟨h1, h2⟩ => ⟨h1, Or.inl ⟨rfl, a, c, rfl⟩, h2 ▸ Bs.refl _ _⟩
  · exact (markN O c k0 hn hk).mono fun e w' ⟨h2, h3, h4⟩ => ⟨h2, Or.inr ⟨g, c, rfl, h1, h3⟩, Bs.only h4 h1⟩
theorem heldNY {P : Nat → Prop} {w : World} {u : Value} {n : Nat} (k0 : Nat) (U : Ny P w u (fun i => ((k0 + i : Nat) : Int)) n) (hn : n ≤ 1048576) (hk : k0 ≤ 10000000) : Calls Try.prog 22 #[u, .int .i64 (k0 : Int)] w fun r w' => r = .returned (.int .i64 ((k0 + n : Nat) : Int)) ∧ w' = w := by
  rcases U with ⟨rfl, a, c, rfl⟩ | ⟨g, c, rfl, h1, O⟩
  · exact (heldN0 a c (k0 : Int) w).mono fun e w' ⟨h1, h2⟩ => ⟨h1, h2⟩
  · exact (heldN c k0 O hn hk).mono fun e w' ⟨h1, h2⟩ => ⟨h1, h2⟩
set_option maxRecDepth 100000 in
theorem eqhits (a b : Int) {P Q : Nat → Prop} {w : World} {u v : Value} {f : Nat → Int} {n : Nat} (U : Ny P w u f n) (V : Ny Q w v f n) (hn : n ≤ 1048576) : Calls Try.prog 36 #[.agg #[.int .i64 a, .int .i64 b, u], .agg #[.int .i64 a, .int .i64 b, v]] w fun e w' => e = .returned (.bool true) ∧ Below w.heap.size w w' := by
  have B1 : Below w.heap.size w (w.alloc (.cells #[.int .i64 a, .int .i64 b, u] 57)) := alloc_b
  have B2 : Below w.heap.size w ((w.alloc (.cells #[.int .i64 a, .int .i64 b, u] 57)).alloc (.cells #[.int .i64 a, .int .i64 b, v] 57)) := B1.alloc (by rw [World.size_alloc]; omega) _
  have h20 := eqNY (U.next B2) (V.next B2) hn
  have HB := Hid.mk B2
  obtain ⟨ua, uc, rfl⟩ := U.slice
  obtain ⟨va, vc, rfl⟩ := V.slice
  clear U V B1 B2
  go_enter Try.func36, Try.ntmps36
  go_wp2_with (go_at_call 20; refine h20.mono ?_; rintro e w2 ⟨rfl, B3⟩)
  go_ret
  exact ⟨rfl, HB.out.trans (B3.mono HB.out.size)⟩
set_option maxRecDepth 100000 in
theorem markhits (a b : Int) {P : Nat → Prop} {w : World} {u : Value} {f : Nat → Int} {n : Nat} (U : Ny P w u f n) (k0 : Nat) (hn : n ≤ 1048576) (hk : k0 ≤ 10000000) : Calls Try.prog 37 #[.agg #[.int .i64 a, .int .i64 b, u], .int .i64 (k0 : Int)] w fun r w' => r = .returned (.int .i64 ((k0 + n : Nat) : Int)) ∧ Ny P w' u (fun i => ((k0 + i : Nat) : Int)) n ∧ Bs P w w' := by
  have B1 : Below w.heap.size w (w.alloc (.cells #[.int .i64 a, .int .i64 b, u] 57)) := alloc_b
  have h21 := markNY (U.next B1) k0 hn hk
  have HB : Hid (Bs P w (w.alloc (.cells #[.int .i64 a, .int .i64 b, u] 57))) := Bs.ofBelow B1
  obtain ⟨ua, uc, rfl⟩ := U.slice
  generalize ((k0 + n : Nat) : Int) = z at h21 ⊢
  clear U B1
  go_enter Try.func37, Try.ntmps37
  go_wp2_with (go_at_call 21; refine h21.mono ?_; rintro e w2 ⟨rfl, M2, B2⟩)
  go_ret
  exact ⟨rfl, M2, HB.out.trans B2⟩
set_option maxRecDepth 100000 in
theorem heldhits (a b : Int) {P : Nat → Prop} {w : World} {u : Value} {n : Nat} (k0 : Nat) (U : Ny P w u (fun i => ((k0 + i : Nat) : Int)) n) (hn : n ≤ 1048576) (hk : k0 ≤ 10000000) : Calls Try.prog 38 #[.agg #[.int .i64 a, .int .i64 b, u], .int .i64 (k0 : Int)] w fun r w' => r = .returned (.int .i64 ((k0 + n : Nat) : Int)) ∧ Below w.heap.size w w' := by
  have B1 : Below w.heap.size w (w.alloc (.cells #[.int .i64 a, .int .i64 b, u] 57)) := alloc_b
  have h22 := heldNY k0 (U.next B1) hn hk
  have HB := Hid.mk B1
  obtain ⟨ua, uc, rfl⟩ := U.slice
  have z0 : ¬ ((k0 + n : Nat) : Int) < 0 := by omega
  generalize ((k0 + n : Nat) : Int) = z at h22 z0 ⊢
  clear U B1
  go_enter Try.func38, Try.ntmps38
  go_wp2_with (go_at_call 22; refine h22.mono ?_; rintro e w2 ⟨rfl, hw⟩; subst w2)
  go_ret
  exact ⟨rfl, HB.out⟩
/-- What a call leaves of a cache and its count: the rows of lines in blocks of one kind, the row of the count in one of another. -/
theorem Lw.both {B lb gm m hb cp : Nat} {w : World} {U : Nat → Value} {u : Value} {L : Nat → List Int} {M : List Int} {a b : Int} (h : Lw B lb gm m hb w U u L M a b) : ∃ R : Nat → Prop, Ay (Rg B w.heap.size R) w (.slice (some ⟨gm, 0, none⟩) m cp) m L ∧ Ny (Rg B w.heap.size (fun k => ¬ R k)) w u (fun i => M.getD i 0) M.length := by
  refine ⟨fun k => u.ownBlock ≠ some k, ?_, ?_⟩
  · have hx := h.K.ax (cp := cp)
    obtain ⟨ad, cp', p, o, h1, h2, h3, h4⟩ := hx
    injection h1 with h1 h1a h1b
    subst h1; subst h1b
    have key : ∀ x i, x < m → i < (L x).length → (U x).ownBlock = some (p x) := fun x i hx hi => by
      obtain ⟨gc, e1, _, ⟨a2, c2, e2, e3⟩, _⟩ := h2.ptr x hx
      injection e1 with e1
      injection e1 with e1
      subst e1
      have e4 := h.K.c x hx
      rw [e2] at e4
      have e5 := Option.some.inj e4
      rw [← e5, e3 (by omega)]
      rfl
    refine ⟨_, cp, p, o, rfl, ⟨fun x hx => ?_, h2.cel, h2.fr, h2.ap, fun _ _ _ _ => Nat.zero_le _⟩, fun gc hm e => ?_, fun x i hx hi => ⟨h2.lo x i hx hi, h4 x i hx hi, fun e => (h.ou _ e).2.2.2 x hx (key x i hx hi)⟩⟩
    · obtain ⟨gc, h5, _, h6⟩ := h2.ptr x hx
      exact ⟨gc, h5, Nat.zero_le _, h6⟩
    · injection e with e
      injection e with e
      subst e
      exact ⟨h.K.bg, h.K.hg, fun e => (h.ou _ e).2.1 rfl⟩
  · rcases nrow_of h.R with e | ⟨g, c, e1, e2, e3, O⟩
    · exact Or.inl e
    · exact Or.inr ⟨g, c, e1, ⟨e2, e3, fun n => n (by rw [e1]; rfl)⟩, O⟩
end Go.Proofs.Ytfhpjcojccfcoaa
