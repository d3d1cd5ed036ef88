/- The program's TokensText: the texts of good tokens, a space between two; a token that is not good ends it. -/
import Derived.Test.YtpildklndfgojaaDoorTokG
import Derived.Test.YtpildklndfgojaaDoorTokB
import Derived.Test.YtpildklndfgojaaDoorShelfC
namespace Go.Proofs.YtpildklndfgojaaDoor.Tk
open Go.ChangeShapes Go.WideShapes Go.ChangeAt Go.RowKit
set_option linter.unusedVariables false
/-- The first k texts, a space between two. -/
def joinT (T : Nat → ByteArray) : Nat → List UInt8
  | 0 => []
  | k + 1 => (joinT T k ++ if k = 0 then [] else [32]) ++ (T k).data.toList
/-- Whether the first k tokens are good. -/
def allG (K : Nat → Int) (T : Nat → ByteArray) : Nat → Bool
  | 0 => true
  | k + 1 => allG K T k && goodK (K k) (T k)
def outS (K : Nat → Int) (T : Nat → ByteArray) (n : Nat) : ByteArray := if allG K T n = true then ⟨(joinT T n).toArray⟩ else ⟨#[]⟩
theorem allG_false (K : Nat → Int) (T : Nat → ByteArray) (k : Nat) (g : goodK (K k) (T k) = false) : ∀ n, k < n → allG K T n = false
  | 0, h => by omega
  | n + 1, h => by
    rw [allG]
    by_cases e : k = n
    · subst e; rw [g]; simp
    · rw [allG_false K T k g n (by omega)]; rfl
theorem join_len (T : Nat → ByteArray) (n : Nat) (h : ∀ i, i < n → (T i).size ≤ 1048576) : ∀ k, k ≤ n → (joinT T k).length ≤ k * 1048577
  | 0, _ => by simp [joinT]
  | k + 1, hk => by
    have i := join_len T n h k (by omega)
    have j := h k (by omega)
    have e : (T k).data.toList.length = (T k).size := by simp
    rw [joinT, List.length_append, List.length_append, e]
    by_cases z : k = 0
    · rw [if_pos z]; simp; omega
    · rw [if_neg z]; simp; omega
theorem builder_next {B b : Nat} {bs : List Value} {w w' : World} (h : Lib.IsBuilderF 109 5 B b bs w) (hb : Below w.heap.size w w') : Lib.IsBuilderF 109 5 B b bs w' := by
  have one : ∀ p, Lib.BuilderAtF 109 5 B b p bs w → Lib.BuilderAtF 109 5 B b p bs w' := by
    intro p q
    have hlt := q.lt
    obtain ⟨hB, v, hk, hown, hne⟩ := q
    exact ⟨hB, v, (hb.block b hlt).trans hk, hown.kept (row := none) ⟨hb.os, hb.tape, hb.output, hb.size, fun k hk _ => hb.block k hk⟩ (by cases hv : v.ownBlock <;> simp), hne⟩
  exact h.imp (one _) (one _)
theorem write_at (B : Nat) (l : List UInt8) (s : ByteArray) (w : World) (h : Lib.IsBuilderF 109 5 B B (Lib.byteCells l) w) (hlen : l.length + s.size ≤ 140737488355328) (hBw : B ≤ w.heap.size) :
    Calls Tryd.prog 75 #[.pointer (some ⟨B, 0, none⟩), .string s] w fun e w' => e = .returned (.tuple #[.int .i64 s.size, .nilIface]) ∧ Lib.IsBuilderF 109 5 B B (Lib.byteCells (l ++ s.data.toList)) w' ∧ Below B w w' ∧ Lib.OthersKept 5 (some B) w w' :=
  (write75 B B (Lib.byteCells l) s w h (by rw [Lib.byteCells_length]; exact hlen) hBw).mono fun e w' ⟨h1, h2, h3, h4⟩ => ⟨h1, Or.inr (by rw [Lib.byteCells_append, ← Lib.strCells_eq]; exact h2), h3, h4⟩
set_option maxHeartbeats 4000000 in
set_option maxRecDepth 100000 in
theorem text26 {w : World} {o n : Nat} {K J : Nat → Int} {T : Nat → ByteArray} (R : Row3 w o n K T J) (hn : n ≤ 400) (hT : ∀ i, i < n → (T i).size ≤ 1048576) (hL : Lb w) :
    Calls Tryd.prog 26 #[.slice (some ⟨o, 0, none⟩) n n] w fun r w' => r = .returned (.tuple #[.string (outS K T n), .bool (allG K T n)]) ∧ Below w.heap.size w w' := by
  have hn' : ¬ (400 : Int) < (n : Int) := by omega
  have HL : Hid (Lb w) := hL
  have HT : Hid (∀ i, i < n → (T i).size ≤ 1048576) := hT
  clear hL hT
  go_enter Tryd.func26, Tryd.ntmps26
  go_wp2
  go_loopw [12] (fun i wr => ∃ k : Nat, k ≤ n ∧ i = .int .i64 k ∧ Hid (allG K T k = true) ∧ Hid (Lib.IsBuilderF 109 5 w.heap.size w.heap.size (Lib.byteCells (joinT T k)) wr) ∧ Below w.heap.size w wr) (fun i _ => n - (intOf i).toNat)
  case atStart => exact ⟨0, by omega, rfl, rfl, Lib.IsBuilderF.of (Lib.fresh_isBuilder 109 5 w), (Below.refl _ _).alloc (Nat.le_refl _) _⟩
  case round =>
    obtain ⟨k, hk, rfl, HA, HB, BK⟩ := hrel
    have zr := BK.size
    by_cases hkn : k < n
    · have RR := R.next BK
      have a0 := RR.k k hkn
      have a1 := RR.t k hkn
      have a2 := RR.j k hkn
      have i0 : (0 : Int) ≤ (k : Int) := by omega
      have i1 : (k : Int) < (n : Int) := by omega
      obtain ⟨G, hG⟩ : ∃ G, goodK (K k) (T k) = G := ⟨_, rfl⟩
      have HG : Hid (goodK (K k) (T k) = G) := hG
      have H74 : Hid (∀ wx : World, Below wr.heap.size wr wx → wx.heap[wr.heap.size]? = some (.cells #[.int .i64 (K k), .string (T k), .int .i64 (J k)] 88 (0, 0)) → Calls Tryd.prog 74 #[.int .i64 (K k), .string (T k)] wx fun r w' => r = .returned (.bool G) ∧ Below wr.heap.size wr w' ∧ w'.heap[wr.heap.size]? = some (.cells #[.int .i64 (K k), .string (T k), .int .i64 (J k)] 88 (0, 0)) ∧ w'.cell? ⟨wr.heap.size, 1, none⟩ = some (.string (T k))) := fun wx b h => by
        have lt : wr.heap.size < wx.heap.size := by
          rcases Nat.lt_or_ge wr.heap.size wx.heap.size with h' | h'
          · exact h'
          · simp [Array.getElem?_eq_none h'] at h
        rw [← hG]
        refine (good74 (K k) (T k) wx (HT.out k hkn) (HL.out.next (BK.trans (b.mono zr)))).mono ?_
        rintro e w' ⟨h1, h2⟩
        have q := (h2.block _ lt).trans h
        exact ⟨h1, step_b b h2, q, by rw [Lib.cell_of_heap q]; rfl⟩
      have blt : w.heap.size < wr.heap.size := by
        rcases HB.out with q | q
        · exact q.lt
        · exact q.lt
      have jl := join_len T n HT.out k hk
      have tk := HT.out k hkn
      have H32 : Hid (∀ wx : World, Below wr.heap.size wr wx → wx.heap[wr.heap.size]? = some (.cells #[.int .i64 (K k), .string (T k), .int .i64 (J k)] 88 (0, 0)) → Calls Tryd.prog 75 #[.pointer (some ⟨w.heap.size, 0, none⟩), .string ⟨#[32]⟩] wx fun r w' => r = .returned (.tuple #[.int .i64 ((ByteArray.mk #[32]).size : Nat), .nilIface]) ∧ Hid (Lib.IsBuilderF 109 5 w.heap.size w.heap.size (Lib.byteCells (joinT T k ++ [32])) w') ∧ Below w.heap.size w w' ∧ w'.cell? ⟨wr.heap.size, 1, none⟩ = some (.string (T k))) := fun wx b h => by
        refine (write_at w.heap.size (joinT T k) ⟨#[32]⟩ wx (builder_next HB.out b) (by have : (ByteArray.mk #[32]).size = 1 := rfl; omega) (by have := b.size; omega)).mono ?_
        rintro e w' ⟨h1, h2, h3, h4⟩
        have q := h4 _ _ h (by intro z; injection z with z; omega) (by intro c fz z; injection z with _ z2; exact absurd z2 (by decide))
        exact ⟨h1, h2, (BK.trans (b.mono zr)).trans h3, by rw [Lib.cell_of_heap q]; rfl⟩
      have H75 : Hid (∀ (wx : World) (l : List UInt8), Lib.IsBuilderF 109 5 w.heap.size w.heap.size (Lib.byteCells l) wx → (l = joinT T k ++ if k = 0 then [] else [32]) → Below w.heap.size w wx → Calls Tryd.prog 75 #[.pointer (some ⟨w.heap.size, 0, none⟩), .string (T k)] wx fun r w' => r = .returned (.tuple #[.int .i64 ((T k).size : Nat), .nilIface]) ∧ Hid (Lib.IsBuilderF 109 5 w.heap.size w.heap.size (Lib.byteCells (joinT T (k + 1))) w') ∧ Below w.heap.size w w') := fun wx l h hl b => by
        have ll : l.length ≤ (joinT T k).length + 1 := by
          rw [hl, List.length_append]
          by_cases z : k = 0
          · rw [if_pos z]; simp
          · rw [if_neg z]; simp
        refine (write_at w.heap.size l (T k) wx h (by omega) b.size).mono ?_
        rintro e w' ⟨h1, h2, h3, _⟩
        exact ⟨h1, by rw [joinT, ← hl]; exact h2, b.trans h3⟩
      clear hG R HL RR jl tk
      cases G
      · have af := allG_false K T k HG.out n hkn
        have ho : outS K T n = ⟨#[]⟩ := by rw [outS, if_neg (by rw [af]; decide)]
        have HO : Hid (allG K T n = false ∧ outS K T n = ⟨#[]⟩) := ⟨af, ho⟩
        clear af ho
        go_wp2_with (go_at_call 74; refine ((Hid.out H74) _ ((Below.refl _ _).alloc (Nat.le_refl _) _) (heap_alloc_new _ _)).mono ?_; rintro e w2 ⟨rfl, B2, h2, c2⟩)
        go_ret2
        exact ⟨by rw [HO.out.1, HO.out.2]; rfl, BK.trans (B2.mono zr)⟩
      · have HN : Hid (allG K T (k + 1) = true) := by show allG K T (k + 1) = true; rw [allG, HA.out, HG.out]; rfl
        by_cases k0 : k = 0
        · have k1 : ¬ (0 : Int) < (k : Int) := by omega
          have HJ : Hid (joinT T k = joinT T k ++ if k = 0 then [] else [32]) := by show joinT T k = joinT T k ++ if k = 0 then [] else [32]; rw [if_pos k0]; simp
          clear k0 H32
          go_wp2_with (first | (go_at_call 74; refine ((Hid.out H74) _ ((Below.refl _ _).alloc (Nat.le_refl _) _) (heap_alloc_new _ _)).mono ?_; rintro e w2 ⟨rfl, B2, h2, c2⟩) | (go_at_call 75; refine ((Hid.out H75) w2 (joinT T k) (builder_next HB.out B2) HJ.out (BK.trans (B2.mono zr))).mono ?_; rintro e w3 ⟨rfl, I3, B3⟩))
          exact ⟨⟨k + 1, by omega, by go_num, HN, I3, B3⟩, by simp [intOf]; omega⟩
        · have k1 : (0 : Int) < (k : Int) := by omega
          have HJ : Hid (joinT T k ++ [32] = joinT T k ++ if k = 0 then [] else [32]) := by show joinT T k ++ [32] = joinT T k ++ if k = 0 then [] else [32]; rw [if_neg k0]
          clear k0
          go_wp2_with (first | (go_at_call 74; refine ((Hid.out H74) _ ((Below.refl _ _).alloc (Nat.le_refl _) _) (heap_alloc_new _ _)).mono ?_; rintro e w2 ⟨rfl, B2, h2, c2⟩) | (go_at_call 75; (with_reducible show Calls Tryd.prog 75 #[_, .string ⟨#[32]⟩] _ _); refine ((Hid.out H32) w2 B2 h2).mono ?_; rintro e w3 ⟨rfl, I3, B3, c3⟩) | (go_at_call 75; refine ((Hid.out H75) w3 _ I3.out HJ.out B3).mono ?_; rintro e w4 ⟨rfl, I4, B4⟩))
          exact ⟨⟨k + 1, by omega, by go_num, HN, I4, B4⟩, by simp [intOf]; omega⟩
    · have hkk : k = n := by omega
      subst hkk
      have HO : Hid (allG K T k = true ∧ outS K T k = ⟨(joinT T k).toArray⟩) := ⟨HA.out, by rw [outS, if_pos HA.out]⟩
      have HS : Hid (Calls Tryd.prog 76 #[.pointer (some ⟨w.heap.size, 0, none⟩)] wr fun e w' => e = .returned (.string ⟨(joinT T k).toArray⟩) ∧ Below w.heap.size w w') := (Tryd.Builder_String_any_k w.heap.size w.heap.size (joinT T k) wr HB.out zr).mono fun e w' ⟨h1, _, h2, _⟩ => ⟨h1, BK.trans h2⟩
      clear HA HB
      go_wp2_with (go_at_call 76; refine (Hid.out HS).mono ?_; rintro e w2 ⟨rfl, B2⟩)
      go_ret2
      exact ⟨by rw [HO.out.1, HO.out.2]; rfl, B2⟩
set_option maxRecDepth 100000 in
theorem long26 (a : Option Addr) (n c : Nat) (w : World) (hn : 400 < n) (hn2 : n ≤ 1048576) :
    Calls Tryd.prog 26 #[.slice a n c] w fun r w' => r = .returned (.tuple #[.string ⟨#[]⟩, .bool false]) ∧ Below w.heap.size w w' := by
  have hn' : (400 : Int) < (n : Int) := by omega
  go_enter Tryd.func26, Tryd.ntmps26
  go_wp2
  go_ret2
  exact ⟨rfl, Below.refl _ _⟩
end Go.Proofs.YtpildklndfgojaaDoor.Tk
