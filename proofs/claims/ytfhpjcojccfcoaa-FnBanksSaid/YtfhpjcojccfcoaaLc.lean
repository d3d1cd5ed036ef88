/- Caches as the laws hold them: counted, copied, compared, marked, held against their marks; a cache as an argument. -/
import Derived.Test.YtfhpjcojccfcoaaGq
import Derived.Test.YtfhpjcojccfcoaaNr
import Derived.Deep.Matrix
namespace Go.Proofs.Ytfhpjcojccfcoaa
open Go.ChangeShapes Go.WideShapes Go.ChangeAt Go.RowKit
set_option linter.unusedVariables false
/-- Only blocks from lo to hi have changed. -/
structure Btw (lo hi : Nat) (w w' : World) : Prop where
  os : w'.os = w.os
  tape : w'.tape = w.tape
  output : w'.output = w.output
  size : w.heap.size ≤ w'.heap.size
  block : ∀ k, k < w.heap.size → k < lo ∨ hi ≤ k → w'.heap[k]? = w.heap[k]?
theorem Btw.refl (lo hi : Nat) (w : World) : Btw lo hi w w := ⟨rfl, rfl, rfl, Nat.le_refl _, fun _ _ _ => rfl⟩
theorem Btw.trans {lo hi : Nat} {a b c : World} (h : Btw lo hi a b) (k : Btw lo hi b c) : Btw lo hi a c := ⟨k.os.trans h.os, k.tape.trans h.tape, k.output.trans h.output, Nat.le_trans h.size k.size, fun i hi q => (k.block i (by have := h.size; omega) q).trans (h.block i hi q)⟩
theorem Btw.setCell {lo hi : Nat} {a w : World} {g : Nat} (h : Btw lo hi a w) (h1 : lo ≤ g) (h2 : g < hi) (j : Nat) (v : Value) : Btw lo hi a (w.setCell ⟨g, j, none⟩ v) := h.trans ⟨rfl, rfl, rfl, by simp [World.setCell], fun k _ hk => Below.heap_setCell _ _ _ _ (by show k ≠ g; omega)⟩
theorem Btw.below {lo hi : Nat} {a w : World} (h : Btw lo hi a w) (hs : lo ≤ a.heap.size) : Below lo a w := ⟨h.os, h.tape, h.output, h.size, fun k hk => h.block k (by omega) (Or.inl hk)⟩
theorem Btw.only {o : Nat} {a w : World} (h : Only o a w) : Btw o (o + 1) a w := ⟨h.os, h.tape, h.output, h.size, fun k hk q => h.block k hk (by omega)⟩
theorem Btw.mono {lo hi lo' hi' : Nat} {a w : World} (h : Btw lo hi a w) (h1 : lo' ≤ lo) (h2 : hi ≤ hi') : Btw lo' hi' a w := ⟨h.os, h.tape, h.output, h.size, fun k hk q => h.block k hk (by omega)⟩
theorem Btw.cell {lo hi : Nat} {w w' : World} (b : Btw lo hi w w') {g i : Nat} {v : Value} (h : w.cell? ⟨g, i, none⟩ = some v) (q : g < lo ∨ hi ≤ g) : w'.cell? ⟨g, i, none⟩ = some v := (World.cell?_of_block (w := w) (a := ⟨g, i, none⟩) (b.block g (World.block_lt_of_cell? _ _ h) q)).trans h
theorem NRow.btw {w w' : World} {lo hi a b : Nat} {v : Value} {f : Nat → Int} {n : Nat} (h : NRow w lo hi v f n) (k : Btw a b w w') (q : hi ≤ a ∨ b ≤ lo) : NRow w' lo hi v f n := by
  rcases h with h | ⟨g, c, hv, h1, h2, O⟩
  · exact Or.inl h
  · exact Or.inr ⟨g, c, hv, h1, h2, ⟨fun i hi => k.cell (O.cell i hi) (by omega), fun i => (World.frozen?_of_block (w := w) (a := ⟨g, i, none⟩) (k.block g O.hi (by omega))).trans (O.free i), by have := k.size; have := O.hi; omega⟩⟩
theorem Own.btw {w w' : World} {g n a b : Nat} {f : Nat → Value} (O : Own w g n f) (k : Btw a b w w') (q : g < a ∨ b ≤ g) : Own w' g n f := ⟨fun i hi => k.cell (O.cell i hi) q, fun i => (World.frozen?_of_block (w := w) (a := ⟨g, i, none⟩) (k.block g O.hi q)).trans (O.free i), by have := k.size; have := O.hi; omega⟩
set_option maxRecDepth 100000 in
set_option maxHeartbeats 4000000 in
theorem markG1 {B : Nat} {w : World} {ad : Option Addr} {m : Nat} {S p o : Nat → Nat} {F : Nat → Nat → Int} (G : Gm B w ad m S p o F) (x : Nat) (hx : x < m) (a2 : Option Addr) (cp : Nat) (h2 : 0 < S x → a2 = some ⟨p x, o x, none⟩) (k0 : Nat) (hk0 : k0 ≤ 10000000) (hS : S x ≤ 1048576) (HI : Nat) (hhi : ∀ x i, x < m → i < S x → p x < HI) : Calls Try.prog 21 #[.slice a2 (S x) cp, .int .i64 (k0 : Int)] w fun r w' => r = .returned (.int .i64 ((k0 + S x : Nat) : Int)) ∧ (∃ F', Gm B w' ad m S p o F' ∧ (∀ i, i < S x → F' x i = ((k0 + i : Nat) : Int)) ∧ ∀ y i, y ≠ x → F' y i = F y i) ∧ Btw B HI w w' := by
  have H2 := Hid.mk h2
  have HG := Hid.mk G
  have HLo : Hid (∀ i, i < S x → B ≤ p x ∧ p x < HI) := fun i hi => ⟨G.lo x i hx hi, hhi x i hx hi⟩
  obtain ⟨n, hn⟩ : ∃ n, S x = n := ⟨_, rfl⟩
  have HN : Hid (S x = n) := hn
  rw [hn] at hS ⊢
  clear h2 G hn hhi
  go_enter Try.func21, Try.ntmps21
  go_wp2
  go_loopw [1, 5] (fun q i wr => ∃ (k : Nat) (F' : Nat → Nat → Int), k ≤ n ∧ i = .int .i64 k ∧ q = .int .i64 ((k0 + k : Nat) : Int) ∧ Hid (Gm B wr ad m S p o F') ∧ Hid (∀ i, i < k → F' x i = ((k0 + i : Nat) : Int)) ∧ Hid (∀ y i, y ≠ x → F' y i = F y i) ∧ Hid (Btw B HI w wr)) (fun _ i _ => n - (intOf i).toNat)
  case atStart => exact ⟨0, F, by omega, rfl, rfl, HG, fun i hi => by omega, fun _ _ _ => rfl, Btw.refl _ _ _⟩
  case round =>
    obtain ⟨k, F', hk, rfl, rfl, GJ, FJ, OJ, BJ⟩ := hrel
    by_cases hkn : k < n
    · have i1 : (k : Int) < (n : Int) := by omega
      have i0 : (0 : Int) ≤ (k : Int) := by omega
      have hkS : k < S x := by rw [HN.out]; exact hkn
      obtain rfl := H2.out (by omega)
      obtain ⟨s, hs⟩ : ∃ s : Nat, k0 + k = s := ⟨_, rfl⟩
      rw [hs]
      have s1 : (s : Int) < 4294967296 := by omega
      have s0 : (0 : Int) ≤ (s : Int) := by omega
      have HS : Hid (k0 + k = s) := hs
      have f0 := GJ.out.fr x k hx hkS
      have g0 := GJ.out.cel x k hx hkS
      have GN : Hid (Gm B (wr.setCell ⟨p x, o x + k, none⟩ (.int .i64 (s : Int))) ad m S p o (upG F' x k (s : Int))) := GJ.out.set x k hx hkS _
      have FN : Hid (∀ i, i < k + 1 → upG F' x k (s : Int) x i = ((k0 + i : Nat) : Int)) := fun i hi => by
        unfold upG
        by_cases e : i = k
        · subst e; rw [if_pos ⟨rfl, rfl⟩, HS.out]
        · rw [if_neg (fun q => e q.2)]; exact FJ.out i (by omega)
      have ON : Hid (∀ y i, y ≠ x → upG F' x k (s : Int) y i = F y i) := fun y i hy => by
        unfold upG
        rw [if_neg (fun q => hy q.1)]
        exact OJ.out y i hy
      have BN : Hid (Btw B HI w (wr.setCell ⟨p x, o x + k, none⟩ (.int .i64 (s : Int)))) := BJ.out.setCell (HLo.out k hkS).1 (HLo.out k hkS).2 _ _
      clear hs GJ FJ OJ BJ
      go_wp2
      go_roundw
      case rel => exact ⟨k + 1, _, by omega, by go_num, by have := HS.out; rw [show k0 + (k + 1) = s + 1 by omega]; go_num, GN, FN, ON, BN⟩
      case measure => simp [intOf]; omega
    · have hkk : k = n := by omega
      subst hkk
      go_wp2
      go_ret
      exact ⟨rfl, ⟨F', GJ.out, fun i hi => FJ.out i hi, OJ.out⟩, BJ.out⟩
set_option maxRecDepth 100000 in
set_option maxHeartbeats 4000000 in
theorem markG {B : Nat} {w : World} {ad : Option Addr} {m : Nat} {S p o : Nat → Nat} {F : Nat → Nat → Int} (G : Gm B w ad m S p o F) (cp : Nat) (hm : m ≤ 1048576) (HI : Nat) (hhi : ∀ x i, x < m → i < S x → p x < HI) (k0 : Nat) (hT : k0 + offs S m ≤ 9000000) (hSl : ∀ x, x < m → S x ≤ 1048576) : Calls Try.prog 57 #[.slice ad m cp, .int .i64 (k0 : Int)] w fun r w' => r = .returned (.int .i64 ((k0 + offs S m : Nat) : Int)) ∧ (∃ F', Gm B w' ad m S p o F' ∧ ∀ x i, x < m → i < S x → F' x i = ((k0 + offs S x + i : Nat) : Int)) ∧ Btw B HI w w' := by
  have HG := Hid.mk G
  have HT := Hid.mk hT
  have HSl := Hid.mk hSl
  have HHI := Hid.mk hhi
  clear G hT hSl hhi
  go_enter Try.func57, Try.ntmps57
  go_wp2
  go_loopw [1, 5] (fun q i wr => ∃ (k : Nat) (F' : Nat → Nat → Int), k ≤ m ∧ i = .int .i64 k ∧ q = .int .i64 ((k0 + offs S k : Nat) : Int) ∧ Hid (Gm B wr ad m S p o F') ∧ Hid (∀ x i, x < k → i < S x → F' x i = ((k0 + offs S x + i : Nat) : Int)) ∧ Hid (Btw B HI w wr)) (fun _ i _ => m - (intOf i).toNat)
  case atStart => exact ⟨0, F, by omega, rfl, rfl, HG, fun x i hx => by omega, Btw.refl _ _ _⟩
  case round =>
    obtain ⟨k, F', hk, rfl, rfl, GJ, FJ, BJ⟩ := hrel
    by_cases hkn : k < m
    · have i1 : (k : Int) < (m : Int) := by omega
      have i0 : (0 : Int) ≤ (k : Int) := by omega
      have hle := offs_lt S hkn
      have hT := HT.out
      obtain ⟨gc, rfl, _, ⟨a2, c2, ck, h2⟩, _⟩ := GJ.out.ptr k hkn
      have h27 := markG1 GJ.out k hkn a2 c2 h2 (k0 + offs S k) (by omega) (HSl.out k hkn) HI HHI.out
      have HO : Hid (offs S (k + 1) = offs S k + S k) := rfl
      generalize hsk : S k = sk at h27 ck
      have HSK : Hid (S k = sk) := hsk
      generalize hof : offs S k = ok at h27
      have HOK : Hid (offs S k = ok) := hof
      clear hsk hof h2 hle hT
      go_wp2_with (go_at_call 21; refine h27.mono ?_; rintro e w2 ⟨rfl, ⟨F2, G2, F2a, F2b⟩, B2⟩)
      have GN : Hid (Gm B w2 (some ⟨gc, 0, none⟩) m S p o F2) := G2
      have FN : Hid (∀ x i, x < k + 1 → i < S x → F2 x i = ((k0 + offs S x + i : Nat) : Int)) := fun x i hx hi => by
        by_cases e : x = k
        · subst e
          rw [F2a i (by rw [← HSK.out]; exact hi), HOK.out]
        · rw [F2b x i e]
          exact FJ.out x i (by omega) hi
      have BN : Hid (Btw B HI w w2) := BJ.out.trans B2
      clear G2 F2a F2b B2 GJ FJ BJ h27
      go_roundw
      case rel => exact ⟨k + 1, F2, by omega, by go_num, by rw [HO.out, HSK.out, HOK.out]; (first | rfl | (congr 2; omega)), GN, FN, BN⟩
      case measure => simp [intOf]; omega
    · have hkk : k = m := by omega
      subst hkk
      go_wp2
      go_ret
      exact ⟨rfl, ⟨F', GJ.out, FJ.out⟩, BJ.out⟩
set_option maxRecDepth 100000 in
set_option maxHeartbeats 4000000 in
theorem heldG {B : Nat} {w : World} {ad : Option Addr} {m : Nat} {S p o : Nat → Nat} {F : Nat → Nat → Int} (G : Gm B w ad m S p o F) (k0 : Nat) (hF : ∀ x i, x < m → i < S x → F x i = ((k0 + offs S x + i : Nat) : Int)) (cp : Nat) (hm : m ≤ 1048576) (hT : k0 + offs S m ≤ 9000000) (hSl : ∀ x, x < m → S x ≤ 1048576) : Calls Try.prog 58 #[.slice ad m cp, .int .i64 (k0 : Int)] w fun r w' => r = .returned (.int .i64 ((k0 + offs S m : Nat) : Int)) ∧ w' = w := by
  have HG := Hid.mk G
  have HT := Hid.mk hT
  have HSl := Hid.mk hSl
  have HF := Hid.mk hF
  clear G hT hF
  go_enter Try.func58, Try.ntmps58
  go_wp2
  go_loop [1, 5] (fun q i => ∃ k : Nat, k ≤ m ∧ i = .int .i64 k ∧ q = .int .i64 ((k0 + offs S k : Nat) : Int)) (fun _ i => m - (intOf i).toNat)
  case atStart => exact ⟨0, by omega, rfl, rfl⟩
  case round =>
    obtain ⟨k, hk, rfl, rfl⟩ := hrel
    by_cases hkn : k < m
    · have i1 : (k : Int) < (m : Int) := by omega
      have i0 : (0 : Int) ≤ (k : Int) := by omega
      have hle := offs_lt S hkn
      have hT := HT.out
      obtain ⟨gc, rfl, _, ⟨a2, c2, ck, h2⟩, _⟩ := HG.out.ptr k hkn
      have h28 := held28 (S k) a2 c2 (p k) (o k) (k0 + offs S k) w h2 (fun i hi => by rw [HG.out.cel k i hkn hi, HF.out k i hkn hi]) (by omega) (HSl.out k hkn)
      have HO : Hid (offs S (k + 1) = offs S k + S k) := rfl
      generalize hsk : S k = sk at h28 ck
      have HSK : Hid (S k = sk) := hsk
      generalize hof : offs S k = ok at h28
      have HOK : Hid (offs S k = ok) := hof
      have z0 : ¬ ((k0 + ok + sk : Nat) : Int) < 0 := by omega
      obtain ⟨zz, hzz⟩ : ∃ zz : Int, ((k0 + ok + sk : Nat) : Int) = zz := ⟨_, rfl⟩
      have HZZ : Hid (((k0 + ok + sk : Nat) : Int) = zz) := hzz
      rw [hzz] at h28 z0
      clear hsk hof h2 hle hT hzz
      go_wp2_with (go_at_call 22; refine h28.mono ?_; rintro e w2 ⟨rfl, hw2⟩; subst w2)
      go_round
      case rel => exact ⟨k + 1, by omega, by go_num, by rw [HO.out, HSK.out, HOK.out, ← HZZ.out]; (first | rfl | (congr 2; omega))⟩
      case measure => simp [intOf]; omega
    · have hkk : k = m := by omega
      subst hkk
      go_wp2
      go_ret
      exact ⟨rfl, rfl⟩
/-- What a function answers, or a copy: rows of its own, in blocks from lo to hi. -/
def Ax (lo hi : Nat) (w : World) (u : Value) (m : Nat) (L : Nat → List Int) : Prop := ∃ ad cp p o, u = .slice ad m cp ∧ Gm lo w ad m (fun x => (L x).length) p o (fun x i => (L x).getD i 0) ∧ (∀ gc, 0 < m → ad = some ⟨gc, 0, none⟩ → gc < hi) ∧ ∀ x i, x < m → i < (L x).length → p x < hi
theorem Ax.ans {lo hi : Nat} {w : World} {u : Value} {m : Nat} {L : Nat → List Int} (h : Ax lo hi w u m L) : Ans lo w u m L := by
  obtain ⟨ad, cp, p, o, h1, h2, _, _⟩ := h
  exact ⟨ad, cp, p, o, h1, h2⟩
theorem Ax.arows {lo hi : Nat} {w : World} {u : Value} {m : Nat} {L : Nat → List Int} (h : Ax lo hi w u m L) : ARows w u m L := h.ans.arows
theorem Ax.next {lo hi : Nat} {w w' : World} {u : Value} {m : Nat} {L : Nat → List Int} (h : Ax lo hi w u m L) (b : Below w.heap.size w w') : Ax lo hi w' u m L := by
  obtain ⟨ad, cp, p, o, h1, h2, h3, h4⟩ := h
  exact ⟨ad, cp, p, o, h1, h2.next b, h3, h4⟩
theorem Ax.mono {lo hi lo' hi' : Nat} {w : World} {u : Value} {m : Nat} {L : Nat → List Int} (h : Ax lo hi w u m L) (q1 : lo' ≤ lo) (q2 : hi ≤ hi') : Ax lo' hi' w u m L := by
  obtain ⟨ad, cp, p, o, h1, h2, h3, h4⟩ := h
  refine ⟨ad, cp, p, o, h1, ⟨fun x hx => ?_, h2.cel, h2.fr, h2.ap, fun x i hx hi => Nat.le_trans q1 (h2.lo x i hx hi)⟩, fun gc hm e => Nat.lt_of_lt_of_le (h3 gc hm e) q2, fun x i hx hi => Nat.lt_of_lt_of_le (h4 x i hx hi) q2⟩
  obtain ⟨gc, a1, a2, a3⟩ := h2.ptr x hx
  exact ⟨gc, a1, by omega, a3⟩
theorem Gm.btw {B a b H : Nat} {w w' : World} {ad : Option Addr} {m : Nat} {S p o : Nat → Nat} {F : Nat → Nat → Int} (h : Gm B w ad m S p o F) (k : Btw a b w w') (h3 : ∀ gc, 0 < m → ad = some ⟨gc, 0, none⟩ → gc < H) (h4 : ∀ x i, x < m → i < S x → p x < H) (q : H ≤ a ∨ b ≤ B) : Gm B w' ad m S p o F := by
  refine ⟨fun x hx => ?_, fun x i hx hi => k.cell (h.cel x i hx hi) (by have := h4 x i hx hi; have := h.lo x i hx hi; omega), fun x i hx hi => ?_, h.ap, h.lo⟩
  · obtain ⟨gc, h1, h2, ⟨a2, cp, h5, h6⟩, h7⟩ := h.ptr x hx
    exact ⟨gc, h1, h2, ⟨a2, cp, k.cell h5 (by have := h3 gc (by omega) h1; omega), h6⟩, h7⟩
  · rw [World.frozen?_of_block (w := w) (a := ⟨p x, o x + i, none⟩) (k.block (p x) (World.block_lt_of_cell? _ _ (h.cel x i hx hi)) (by have := h4 x i hx hi; have := h.lo x i hx hi; omega))]
    exact h.fr x i hx hi
theorem Ax.btw {lo hi a b : Nat} {w w' : World} {u : Value} {m : Nat} {L : Nat → List Int} (h : Ax lo hi w u m L) (k : Btw a b w w') (q : hi ≤ a ∨ b ≤ lo) : Ax lo hi w' u m L := by
  obtain ⟨ad, cp, p, o, h1, h2, h3, h4⟩ := h
  exact ⟨ad, cp, p, o, h1, h2.btw k h3 h4 q, h3, h4⟩
/-- .. with its marks. -/
def Mx (lo hi : Nat) (w : World) (u : Value) (m : Nat) (L : Nat → List Int) (k0 : Nat) : Prop := ∃ ad cp p o F, u = .slice ad m cp ∧ Gm lo w ad m (fun x => (L x).length) p o F ∧ (∀ gc, 0 < m → ad = some ⟨gc, 0, none⟩ → gc < hi) ∧ (∀ x i, x < m → i < (L x).length → p x < hi) ∧ ∀ x i, x < m → i < (L x).length → F x i = ((k0 + offs (fun x => (L x).length) x + i : Nat) : Int)
theorem Mx.next {lo hi k0 : Nat} {w w' : World} {u : Value} {m : Nat} {L : Nat → List Int} (h : Mx lo hi w u m L k0) (b : Below w.heap.size w w') : Mx lo hi w' u m L k0 := by
  obtain ⟨ad, cp, p, o, F, h1, h2, h3, h4, h5⟩ := h
  exact ⟨ad, cp, p, o, F, h1, h2.next b, h3, h4, h5⟩
theorem Mx.btw {lo hi a b k0 : Nat} {w w' : World} {u : Value} {m : Nat} {L : Nat → List Int} (h : Mx lo hi w u m L k0) (k : Btw a b w w') (q : hi ≤ a ∨ b ≤ lo) : Mx lo hi w' u m L k0 := by
  obtain ⟨ad, cp, p, o, F, h1, h2, h3, h4, h5⟩ := h
  exact ⟨ad, cp, p, o, F, h1, h2.btw k h3 h4 q, h3, h4, h5⟩
/-- How many numbers there are in m rows. -/
def tot (L : Nat → List Int) (m : Nat) : Nat := offs (fun x => (L x).length) m
theorem markX {lo hi : Nat} {w : World} {u : Value} {m : Nat} {L : Nat → List Int} (h : Ax lo hi w u m L) (hm : m ≤ 1048576) (k0 : Nat) (hT : k0 + tot L m ≤ 9000000) (hl : ∀ x, x < m → (L x).length ≤ 1048576) : Calls Try.prog 57 #[u, .int .i64 (k0 : Int)] w fun r w' => r = .returned (.int .i64 ((k0 + tot L m : Nat) : Int)) ∧ Mx lo hi w' u m L k0 ∧ Btw lo hi w w' := by
  obtain ⟨ad, cp, p, o, rfl, h2, h3, h4⟩ := h
  refine (markG h2 cp hm hi h4 k0 hT hl).mono ?_
  rintro e w' ⟨rfl, ⟨F, G, hF⟩, B⟩
  exact ⟨rfl, ⟨ad, cp, p, o, F, rfl, G, h3, h4, hF⟩, B⟩
theorem heldX {lo hi : Nat} {w : World} {u : Value} {m : Nat} {L : Nat → List Int} (k0 : Nat) (h : Mx lo hi w u m L k0) (hm : m ≤ 1048576) (hT : k0 + tot L m ≤ 9000000) (hl : ∀ x, x < m → (L x).length ≤ 1048576) : Calls Try.prog 58 #[u, .int .i64 (k0 : Int)] w fun r w' => r = .returned (.int .i64 ((k0 + tot L m : Nat) : Int)) ∧ w' = w := by
  obtain ⟨ad, cp, p, o, F, rfl, h2, h3, h4, h5⟩ := h
  exact heldG h2 k0 h5 cp hm hT hl
/-- m rows that are empty. -/
theorem ax_new {w : World} {g m : Nat} (O : Own w g m (fun _ => .slice none 0 0)) {lo hi : Nat} (h1 : lo ≤ g) (h2 : g < hi) (cp : Nat) : Ax lo hi w (.slice (some ⟨g, 0, none⟩) m cp) m (fun _ => []) :=
  ⟨_, cp, fun _ => 0, fun _ => 0, rfl, ⟨fun x hx => ⟨g, rfl, h1, ⟨none, 0, O.cell x hx, fun h => absurd h (by simp)⟩, fun y i _ hi => absurd hi (by simp)⟩, fun x i _ hi => absurd hi (by simp), fun x i _ hi => absurd hi (by simp), fun x y i j _ _ hi => absurd hi (by simp), fun x i _ hi => absurd hi (by simp)⟩, fun gc _ e => by injection e with e; injection e with e; omega, fun x i _ hi => absurd hi (by simp)⟩
theorem ax_none (lo hi : Nat) (w : World) (L : Nat → List Int) : Ax lo hi w (.slice none 0 0) 0 L :=
  ⟨none, 0, fun _ => 0, fun _ => 0, rfl, ⟨fun x hx => absurd hx (Nat.not_lt_zero _), fun x i hx => absurd hx (Nat.not_lt_zero _), fun x i hx => absurd hx (Nat.not_lt_zero _), fun x y i j hx => absurd hx (Nat.not_lt_zero _), fun x i hx => absurd hx (Nat.not_lt_zero _)⟩, fun gc h => absurd h (Nat.lt_irrefl _), fun x i hx => absurd hx (Nat.not_lt_zero _)⟩
set_option maxRecDepth 100000 in
set_option maxHeartbeats 1000000 in
theorem eqcache (s y l p c : Int) (u v : Value) (n : Nat) (f : Nat → List Int) (w : World) (U : ARows w u n f) (V : ARows w v n f) (hn : n ≤ 1048576) (hl : ∀ x, x < n → (f x).length ≤ 1048576) : Calls Try.prog 25 #[.agg #[.int .i64 s, .int .i64 y, .int .i64 l, .int .i64 p, u, .int .i64 c], .agg #[.int .i64 s, .int .i64 y, .int .i64 l, .int .i64 p, v, .int .i64 c]] w fun e w' => e = .returned (.bool true) ∧ Below w.heap.size w w' := by
  obtain ⟨W, hW⟩ : ∃ W, W = (w.alloc (.cells #[.int .i64 s, .int .i64 y, .int .i64 l, .int .i64 p, u, .int .i64 c] 42)).alloc (.cells #[.int .i64 s, .int .i64 y, .int .i64 l, .int .i64 p, v, .int .i64 c] 42) := ⟨_, rfl⟩
  have BW : Below w.heap.size w W := by rw [hW]; exact ((Below.refl _ _).alloc (Nat.le_refl _) _).alloc (Nat.le_of_lt (by simp)) _
  have C1 : C6 W w.heap.size (.int .i64 s) (.int .i64 y) (.int .i64 l) (.int .i64 p) u (.int .i64 c) := by rw [hW]; exact (C6.new _ _ _ _ _ _ _ _).next alloc_b
  have C2 : C6 W (w.heap.size + 1) (.int .i64 s) (.int .i64 y) (.int .i64 l) (.int .i64 p) v (.int .i64 c) := by rw [hW]; have := C6.new (w.alloc (.cells #[.int .i64 s, .int .i64 y, .int .i64 l, .int .i64 p, u, .int .i64 c] 42)) 42 (.int .i64 s) (.int .i64 y) (.int .i64 l) (.int .i64 p) v (.int .i64 c); rwa [World.size_alloc] at this
  have h56 := eq10 n f u v W hn hl (U.next BW) (V.next BW)
  have HCW : Hid (∀ w', Below W.heap.size W w' → C6 w' w.heap.size (.int .i64 s) (.int .i64 y) (.int .i64 l) (.int .i64 p) u (.int .i64 c) ∧ C6 w' (w.heap.size + 1) (.int .i64 s) (.int .i64 y) (.int .i64 l) (.int .i64 p) v (.int .i64 c)) := fun w' b => ⟨C1.next b, C2.next b⟩
  have HBW := Hid.mk BW
  clear U V BW C1 C2
  subst hW
  go_enter Try.func25, Try.ntmps25
  go_wp2_with (go_at_call 56; refine h56.mono ?_; rintro e w2 ⟨rfl, B2⟩; (obtain ⟨D1, D2⟩ := HCW.out w2 B2); (have e1 := D1.c5); (have e2 := D2.c5))
  go_ret
  exact ⟨rfl, HBW.out.trans (B2.mono HBW.out.size)⟩
set_option maxRecDepth 100000 in
theorem markcache {lo hi : Nat} {w : World} {u : Value} {m : Nat} {L : Nat → List Int} (s y l p c : Int) (h : Ax lo hi w u m L) (hhi : hi ≤ w.heap.size) (hm : m ≤ 1048576) (k0 : Nat) (hT : k0 + tot L m ≤ 9000000) (hl : ∀ x, x < m → (L x).length ≤ 1048576) : Calls Try.prog 26 #[.agg #[.int .i64 s, .int .i64 y, .int .i64 l, .int .i64 p, u, .int .i64 c], .int .i64 (k0 : Int)] w fun r w' => r = .returned (.int .i64 ((k0 + tot L m : Nat) : Int)) ∧ Mx lo hi w' u m L k0 ∧ Btw lo hi w w' := by
  have B1 : Below w.heap.size w (w.alloc (.cells #[.int .i64 s, .int .i64 y, .int .i64 l, .int .i64 p, u, .int .i64 c] 42)) := alloc_b
  have h57 := markX (h.next B1) hm k0 hT hl
  have HB1 : Hid (Btw lo hi w (w.alloc (.cells #[.int .i64 s, .int .i64 y, .int .i64 l, .int .i64 p, u, .int .i64 c] 42))) := ⟨B1.os, B1.tape, B1.output, B1.size, fun k hk _ => B1.block k hk⟩
  generalize ((k0 + tot L m : Nat) : Int) = z at h57 ⊢
  clear h B1
  go_enter Try.func26, Try.ntmps26
  go_wp2_with (go_at_call 57; refine h57.mono ?_; rintro e w2 ⟨rfl, M2, B2⟩)
  go_ret
  exact ⟨rfl, M2, HB1.out.trans B2⟩
set_option maxRecDepth 100000 in
theorem heldcache {lo hi : Nat} {w : World} {u : Value} {m : Nat} {L : Nat → List Int} (s y l p c : Int) (k0 : Nat) (h : Mx lo hi w u m L k0) (hm : m ≤ 1048576) (hT : k0 + tot L m ≤ 9000000) (hl : ∀ x, x < m → (L x).length ≤ 1048576) : Calls Try.prog 27 #[.agg #[.int .i64 s, .int .i64 y, .int .i64 l, .int .i64 p, u, .int .i64 c], .int .i64 (k0 : Int)] w fun r w' => r = .returned (.int .i64 ((k0 + tot L m : Nat) : Int)) ∧ Below w.heap.size w w' := by
  have B1 : Below w.heap.size w (w.alloc (.cells #[.int .i64 s, .int .i64 y, .int .i64 l, .int .i64 p, u, .int .i64 c] 42)) := alloc_b
  have h57 := heldX k0 (h.next B1) hm hT hl
  have HB1 := Hid.mk B1
  have z0 : ¬ ((k0 + tot L m : Nat) : Int) < 0 := by omega
  generalize ((k0 + tot L m : Nat) : Int) = z at h57 z0 ⊢
  clear h B1
  go_enter Try.func27, Try.ntmps27
  go_wp2_with (go_at_call 58; refine h57.mono ?_; rintro e w2 ⟨rfl, hw⟩; subst w2)
  go_ret
  exact ⟨rfl, HB1.out⟩
end Go.Proofs.Ytfhpjcojccfcoaa
