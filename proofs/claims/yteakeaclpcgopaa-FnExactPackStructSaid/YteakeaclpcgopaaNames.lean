/- Names, words and signs of the program and of the model (the plain seat's texts of chapter 3 at this seat). -/
import Derived.Test.YteakeaclpcgopaaRows
import Derived.WalkKit
import Derived.ProofKit
import Derived.OpenShut
import Derived.WalkLawsBesides
import Derived.Laws.BitsAll
import Derived.Deep.QuietTactic
import Derived.Laws.IdiomStrings
import Derived.Deep.RegionHeld3
import Derived.BigQuiet
import Derived.Laws.RangeAny
namespace Go.Proofs.Yteakeaclpcgopaa.Tk
open Go.ChangeShapes Go.WideShapes Go.ChangeAt Go.RowKit

/-- n cells of block o, from its head on: one value each; each may be written. -/
structure Own (w : World) (o n : Nat) (f : Nat → Value) : Prop where
  cell : ∀ i, i < n → w.cell? ⟨o, i, none⟩ = some (f i)
  free : ∀ i, w.frozen? ⟨o, i, none⟩ = false
  hi : o < w.heap.size
theorem Own.set {w : World} {o n : Nat} {f g : Nat → Value} (h : Own w o n f) (j : Nat) (v : Value) (hj : j < n) (hg : ∀ i, i < n → g i = if i = j then v else f i) : Own (w.setCell ⟨o, j, none⟩ v) o n g := by
  refine ⟨fun i hi => ?_, fun i => ?_, by simpa using h.hi⟩
  · rw [hg i hi]
    by_cases e : i = j
    · subst e
      rw [if_pos rfl]
      exact World.cell?_setCell_same' w _ _ (by rw [h.cell i hj]; rfl)
    · rw [if_neg e]
      have hne : (⟨o, j, none⟩ : Addr) ≠ ⟨o, i, none⟩ := by
        intro k; injection k with _ k2; exact e k2.symm
      rw [World.cell?_setCell_other (h := hne)]
      exact h.cell i hi
  · simp [h.free i]
theorem Own.mono {w : World} {o n m : Nat} {f g : Nat → Value} (h : Own w o n f) (hm : m ≤ n) (hg : ∀ i, i < m → g i = f i) : Own w o m g :=
  ⟨fun i hi => by rw [hg i hi]; exact h.cell i (by omega), h.free, h.hi⟩
/-- All blocks but one are as they were. -/
structure Only (o : Nat) (w w' : World) : Prop where
  os : w'.os = w.os
  tape : w'.tape = w.tape
  output : w'.output = w.output
  size : w.heap.size ≤ w'.heap.size
  block : ∀ k, k < w.heap.size → k ≠ o → w'.heap[k]? = w.heap[k]?
theorem Only.refl (o : Nat) (w : World) : Only o w w := ⟨rfl, rfl, rfl, Nat.le_refl _, fun _ _ _ => rfl⟩
theorem Only.trans {o : Nat} {a b c : World} (h : Only o a b) (k : Only o b c) : Only o a c :=
  ⟨k.os.trans h.os, k.tape.trans h.tape, k.output.trans h.output, Nat.le_trans h.size k.size, fun i hi ho => (k.block i (by have := h.size; omega) ho).trans (h.block i hi ho)⟩
theorem Only.setCell {o : Nat} {a w : World} (h : Only o a w) (j : Nat) (v : Value) : Only o a (w.setCell ⟨o, j, none⟩ v) :=
  h.trans ⟨rfl, rfl, rfl, by simp [World.setCell], fun k _ hk => Below.heap_setCell _ _ _ _ hk⟩
theorem Only.drewN {o : Nat} {a w : World} (h : Only o a w) (q : Nat) : Only o a (w.drewN q) := ⟨h.os, h.tape, h.output, h.size, h.block⟩
theorem Only.below {o B : Nat} {a w : World} (h : Only o a w) (hB : B ≤ o) (hs : B ≤ a.heap.size) : Below B a w := ⟨h.os, h.tape, h.output, h.size, fun k hk => h.block k (by omega) (by omega)⟩
theorem Only.ofBelow {o : Nat} {a w : World} (h : Below a.heap.size a w) : Only o a w := ⟨h.os, h.tape, h.output, h.size, fun k hk _ => h.block k hk⟩
theorem below_drewN {B : Nat} {a w : World} (h : Below B a w) (q : Nat) : Below B a (w.drewN q) := ⟨h.os, h.tape, h.output, h.size, h.block⟩
theorem drew2 (w : World) (a b : Nat) : (w.drewN a).drewN b = w.drewN (a + b) := by simp [World.drewN, Nat.add_assoc]
theorem Own.drewN {w : World} {o n : Nat} {f : Nat → Value} (h : Own w o n f) (q : Nat) : Own (w.drewN q) o n f := ⟨fun i hi => (h.cell i hi : w.cell? _ = _), fun i => h.free i, h.hi⟩
theorem Own.next {w w' : World} {o n : Nat} {f : Nat → Value} (h : Own w o n f) (hb : Below w.heap.size w w') : Own w' o n f := by
  have z := hb.size
  have zh := h.hi
  exact ⟨fun i hi => (hb.cell (p := ⟨o, i, none⟩) h.hi).trans (h.cell i hi), fun i => (hb.frozen (p := ⟨o, i, none⟩) h.hi).trans (h.free i), by omega⟩
theorem Own.but {w w' : World} {o p n : Nat} {f : Nat → Value} (h : Own w o n f) (hb : Only p w w') (hne : o ≠ p) : Own w' o n f := by
  have z := hb.size
  have zh := h.hi
  exact ⟨fun i hi => (World.cell?_of_block (w := w) (a := ⟨o, i, none⟩) (hb.block o zh hne)).trans (h.cell i hi), fun i => (World.frozen?_of_block (w := w) (a := ⟨o, i, none⟩) (hb.block o zh hne)).trans (h.free i), by omega⟩
theorem own_made {w : World} {B n t : Nat} {z : Value} {w' : World} (h : w'.ownsRow B t 1 (.slice (some ⟨w.heap.size, 0, none⟩) n n) n (madeCells #[z] (n * 1)).toList) : Own w' w.heap.size n (fun _ => z) := by
  refine ⟨fun i hi => ?_, fun i => h.frozenAt i, (h.lt _ rfl).2⟩
  rw [h.cellAt i (by omega)]
  simp [madeCells, hi, Nat.mod_one]
/-- A row behind appends: at most what is owned. -/
theorem own_owned {w : World} {B t g n cap : Nat} {xs : List Value} (h : w.ownsRow B t 1 (.slice (some ⟨g, 0, none⟩) n cap) n xs) (f : Nat → Value) (hf : ∀ i, i < n → xs[i]? = some (f i)) : Own w g n f :=
  ⟨fun i hi => by rw [h.cellAt i (by omega)]; exact hf i hi, fun i => h.frozenAt i, (h.lt _ rfl).2⟩
end Go.Proofs.Yteakeaclpcgopaa.Tk
namespace Go.Proofs.Yteakeaclpcgopaa.Tk
open Go.ChangeShapes Go.WideShapes Go.ChangeAt Go.RowKit
/-- The decimal digits of a number ahead of a text. -/
def dig : Nat → Nat → ByteArray → ByteArray
  | 0, _, s => s
  | f + 1, k, s => if k = 0 then s else dig f (k / 10) (ByteArray.mk #[48 + UInt8.ofNat (k % 10)] ++ s)
theorem dig_zero (f : Nat) (s : ByteArray) : dig f 0 s = s := by cases f <;> simp [dig]
def mtext (k : Nat) : ByteArray := ByteArray.mk #[109] ++ dig 8 k (ByteArray.mk #[])
theorem one_byte (w : World) (n : Int) (h0 : 0 ≤ n) (h1 : n < 256) (t : TypeId) :
    (convert 46 9 (.slice (some ⟨w.heap.size, 0, none⟩) 1 1)).run Try.prog (w.alloc (.cells #[.int .u8 n] t)) = .ok (.string (ByteArray.mk #[UInt8.ofNat n.toNat])) (w.alloc (.cells #[.int .u8 n] t)) :=
  run_convert_bytes_back _ 46 9 5 ⟨w.heap.size, 0, none⟩ 1 [UInt8.ofNat n.toNat] Try.underlying46 Try.underlying5 Try.underlying9 (fun j hj => by
    obtain rfl : j = 0 := by simpa using hj
    show (w.alloc _).cell? ⟨w.heap.size, 0, none⟩ = _
    rw [World.cell?_alloc_mark]
    have : n.toNat % 256 = n.toNat := Nat.mod_eq_of_lt (by omega)
    simp [UInt8.toNat_ofNat', this]
    omega)
set_option maxRecDepth 100000 in
set_option maxHeartbeats 1000000 in
theorem markText15 (k : Nat) (w : World) (h0 : 0 < k) (h1 : k ≤ 10000000) :
    Calls Try.prog 57 #[.int .i64 k] w fun r w' => r = .returned (.string (mtext k)) ∧ Below w.heap.size w w' := by
  have k0 : (0 : Int) < (k : Int) := by omega
  go_enter Try.func57, Try.ntmps57
  go_wp2
  go_loopw [0, 3] (fun v t wr => ∃ (f m : Nat) (s : ByteArray), v = .int .i64 m ∧ t = .string s ∧ dig f m s = dig 8 k (ByteArray.mk #[]) ∧ m < 10 ^ f ∧ m ≤ 10000000 ∧ s.size + f ≤ 8 ∧ Below w.heap.size w wr) (fun v _ _ => (intOf v).toNat)
  case atStart => exact ⟨8, k, _, rfl, rfl, rfl, by omega, h1, by decide, Below.refl _ _⟩
  case round =>
    obtain ⟨f, m, s, rfl, rfl, hd, hf, m7, hs, B⟩ := hrel
    rcases Nat.eq_zero_or_pos m with rfl | hm
    · rw [dig_zero] at hd
      have z : s.size ≤ 8 := by omega
      have HD : Hid (s = dig 8 k (ByteArray.mk #[])) := hd
      clear hd
      rw [show ((0 : Nat) : Int) = 0 from rfl]
      go_wp2
      go_ret
      exact ⟨by rw [mtext, ← HD.out]; rfl, B⟩
    · have m0 : (0 : Int) < (m : Int) := by omega
      obtain ⟨f, rfl⟩ : ∃ g, f = g + 1 := ⟨f - 1, by rcases f with _ | f; (simp at hf; omega); omega⟩
      obtain ⟨d, hd'⟩ : ∃ d : Nat, m % 10 = d := ⟨_, rfl⟩
      have d9 : d < 10 := by omega
      have e1 : (m : Int) % 10 = (d : Int) := by omega
      have e1' : Int.tmod (m : Int) 10 = (d : Int) := by rw [Int.tmod_eq_emod_of_nonneg (by omega)]; omega
      have e2 : Int.tdiv (m : Int) 10 = ((m / 10 : Nat) : Int) := by rw [Int.tdiv_eq_ediv_of_nonneg (by omega)]; omega
      have hb := fun t => one_byte wr (48 + (d : Int)) (by omega) (by omega) t
      have z : s.size ≤ 8 := by omega
      go_wp2
      have q1 : ((m : Int) / 10) = ((m / 10 : Nat) : Int) := by omega
      refine ⟨⟨f, m / 10, _, ?_, rfl, ?_, ?_, by omega, ?_, B.alloc (by have := B.size; omega) _⟩, ?_⟩
      · rw [q1]
      · rw [← hd, dig, if_neg (by omega), hd']
      · rw [Nat.pow_succ] at hf; omega
      · rw [ByteArray.size_append']
        show 1 + s.size + f ≤ 8
        omega
      · rw [q1]
        simp [intOf]
        omega

end Go.Proofs.Yteakeaclpcgopaa.Tk
namespace Go.Proofs.Yteakeaclpcgopaa.Tk
open Go.ChangeShapes Go.WideShapes Go.ChangeAt Go.RowKit
def wordsL : List ByteArray := [⟨#[98, 97, 114, 114, 105, 101, 114]⟩, ⟨#[98, 111, 111, 108]⟩, ⟨#[98, 117, 102, 102, 101, 114]⟩, ⟨#[101, 108, 115, 101]⟩, ⟨#[102, 97, 108, 115, 101]⟩, ⟨#[102, 108, 111, 97, 116]⟩, ⟨#[102, 111, 114]⟩, ⟨#[105, 102]⟩, ⟨#[105, 110]⟩, ⟨#[105, 110, 116]⟩, ⟨#[107, 101, 114, 110, 101, 108]⟩, ⟨#[108, 101, 116]⟩, ⟨#[116, 114, 117, 101]⟩]
def signsL : List ByteArray := [⟨#[33]⟩, ⟨#[33, 61]⟩, ⟨#[37]⟩, ⟨#[38]⟩, ⟨#[38, 38]⟩, ⟨#[40]⟩, ⟨#[41]⟩, ⟨#[42]⟩, ⟨#[43]⟩, ⟨#[44]⟩, ⟨#[45]⟩, ⟨#[46, 46]⟩, ⟨#[47]⟩, ⟨#[58]⟩, ⟨#[59]⟩, ⟨#[60]⟩, ⟨#[60, 60]⟩, ⟨#[60, 61]⟩, ⟨#[61]⟩, ⟨#[61, 61]⟩, ⟨#[62]⟩, ⟨#[62, 61]⟩, ⟨#[62, 62]⟩, ⟨#[91]⟩, ⟨#[93]⟩, ⟨#[94]⟩, ⟨#[123]⟩, ⟨#[124]⟩, ⟨#[124, 124]⟩, ⟨#[125]⟩]
def textAt (l : List ByteArray) (i : Nat) : ByteArray := l.getD i ⟨#[]⟩
theorem own_lit (w : World) (l : List ByteArray) (t : TypeId) : Own (w.alloc (.cells (l.map Value.string).toArray t)) w.heap.size l.length (fun i => .string (textAt l i)) := by
  refine ⟨fun i hi => ?_, fun i => ?_, by rw [World.size_alloc]; omega⟩
  · rw [World.cell?_alloc_mark]
    simp [textAt, List.getD, hi]
  · rw [World.frozen?_alloc_mark]
    simp
set_option maxRecDepth 100000 in
theorem lit6 (w : World) : Calls Try.prog 77 #[] w fun r w' => r = .returned (.slice (some ⟨w.heap.size, 0, none⟩) 13 13) ∧ Own w' w.heap.size 13 (fun i => .string (textAt wordsL i)) ∧ Below w.heap.size w w' := by
  go_enter Try.func77, Try.ntmps77
  go_wp2
  go_ret
  exact ⟨rfl, own_lit w wordsL 9, (Below.refl _ _).alloc (Nat.le_refl _) _⟩
set_option maxRecDepth 100000 in
theorem lit7 (w : World) : Calls Try.prog 95 #[] w fun r w' => r = .returned (.slice (some ⟨w.heap.size, 0, none⟩) 13 13) ∧ Own w' w.heap.size 13 (fun i => .string (textAt wordsL i)) ∧ Below w.heap.size w w' := by
  go_enter Try.func95, Try.ntmps95
  go_wp2
  go_ret
  exact ⟨rfl, own_lit w wordsL 9, (Below.refl _ _).alloc (Nat.le_refl _) _⟩
end Go.Proofs.Yteakeaclpcgopaa.Tk
namespace Go.Proofs.Yteakeaclpcgopaa.Tk
/-- Whether the bytes behind a rune's first one are as they must be. -/
def tailOk (s : ByteArray) (i : Nat) : Nat → Nat → Int → Int → Bool
  | 0, _, _, _ => true
  | f + 1, k, lo, hi => if h : i + k < s.size then (if (((s[i + k]'h).toNat : Nat) : Int) < lo ∨ hi < (((s[i + k]'h).toNat : Nat) : Int) then false else tailOk s i f (k + 1) 128 191) else false
def tailLen (s : ByteArray) (i n : Nat) (lo hi : Int) : Int := if tailOk s i (n - 1) 1 lo hi = true then (n : Int) else 0
/-- How many bytes the rune from 128 on with this first byte has at a place, 0 where there is none. -/
def runeN (s : ByteArray) (i b : Nat) : Int :=
  if b < 194 then 0 else if b ≤ 223 then tailLen s i 2 128 191
  else if b = 224 then tailLen s i 3 160 191 else if b = 237 then tailLen s i 3 128 159 else if b ≤ 239 then tailLen s i 3 128 191
  else if b = 240 then tailLen s i 4 144 191 else if b = 244 then tailLen s i 4 128 143 else if b ≤ 243 then tailLen s i 4 128 191 else 0
/-- The byte at a place behind i. -/
def bt (s : ByteArray) (i k : Nat) : Nat := (s.get! (i + k)).toNat
theorem bt_lt (s : ByteArray) (i k : Nat) : bt s i k < 256 := (s.get! (i + k)).toNat_lt
theorem bt_eq (s : ByteArray) (i k : Nat) (h : i + k < s.size) : (s[i + k]'h).toNat = bt s i k := by
  unfold bt
  simp [ByteArray.get!, getElem!_pos, h]
  rfl
theorem tail_bt (s : ByteArray) (i f k : Nat) (lo hi : Int) : tailOk s i (f + 1) k lo hi = (decide (i + k < s.size) && (decide (lo ≤ (bt s i k : Int)) && decide ((bt s i k : Int) ≤ hi)) && tailOk s i f (k + 1) 128 191) := by
  rw [tailOk]
  by_cases h : i + k < s.size
  · rw [dif_pos h, bt_eq s i k h]
    by_cases h2 : (bt s i k : Int) < lo ∨ hi < (bt s i k : Int)
    · rw [if_pos h2]
      rcases h2 with h2 | h2
      · have : ¬ lo ≤ (bt s i k : Int) := by omega
        simp [this]
      · have : ¬ (bt s i k : Int) ≤ hi := by omega
        simp [this]
    · rw [if_neg h2]
      have a : lo ≤ (bt s i k : Int) := by omega
      have b : (bt s i k : Int) ≤ hi := by omega
      simp [h, a, b]
  · rw [dif_neg h]; simp [h]
theorem tail_nil (s : ByteArray) (i k : Nat) (lo hi : Int) : tailOk s i 0 k lo hi = true := by rw [tailOk]
/-- Go's own reading, by bytes. -/
theorem decode_bt (s : ByteArray) (i : Nat) : Utf8.decode s i =
    (if bt s i 0 < 128 then (bt s i 0, 1)
     else if (bt s i 0 / 32 == 6 && (decide (i + 1 < s.size) && bt s i 1 / 64 == 2)) = true then
       (if bt s i 0 % 32 * 64 + bt s i 1 % 64 ≥ 128 then (bt s i 0 % 32 * 64 + bt s i 1 % 64, 2) else (65533, 1))
     else if (bt s i 0 / 16 == 14 && (decide (i + 1 < s.size) && bt s i 1 / 64 == 2) && (decide (i + 2 < s.size) && bt s i 2 / 64 == 2)) = true then
       (if (decide (bt s i 0 % 16 * 4096 + bt s i 1 % 64 * 64 + bt s i 2 % 64 ≥ 2048) && Utf8.valid ((bt s i 0 % 16 * 4096 + bt s i 1 % 64 * 64 + bt s i 2 % 64 : Nat) : Int)) = true then (bt s i 0 % 16 * 4096 + bt s i 1 % 64 * 64 + bt s i 2 % 64, 3) else (65533, 1))
     else if (bt s i 0 / 8 == 30 && (decide (i + 1 < s.size) && bt s i 1 / 64 == 2) && (decide (i + 2 < s.size) && bt s i 2 / 64 == 2) && (decide (i + 3 < s.size) && bt s i 3 / 64 == 2)) = true then
       (if (decide (bt s i 0 % 8 * 262144 + bt s i 1 % 64 * 4096 + bt s i 2 % 64 * 64 + bt s i 3 % 64 ≥ 65536) && Utf8.valid ((bt s i 0 % 8 * 262144 + bt s i 1 % 64 * 4096 + bt s i 2 % 64 * 64 + bt s i 3 % 64 : Nat) : Int)) = true then (bt s i 0 % 8 * 262144 + bt s i 1 % 64 * 4096 + bt s i 2 % 64 * 64 + bt s i 3 % 64, 4) else (65533, 1))
     else (65533, 1)) := rfl
theorem len2 (s : ByteArray) (i : Nat) (lo hi : Int) : tailLen s i 2 lo hi = if i + 1 < s.size ∧ lo ≤ (bt s i 1 : Int) ∧ (bt s i 1 : Int) ≤ hi then 2 else 0 := by
  unfold tailLen
  rw [show 2 - 1 = 0 + 1 from rfl, tail_bt, tail_nil]
  simp
theorem len3 (s : ByteArray) (i : Nat) (lo hi : Int) : tailLen s i 3 lo hi = if (i + 1 < s.size ∧ lo ≤ (bt s i 1 : Int) ∧ (bt s i 1 : Int) ≤ hi) ∧ i + 2 < s.size ∧ 128 ≤ (bt s i 2 : Int) ∧ (bt s i 2 : Int) ≤ 191 then 3 else 0 := by
  unfold tailLen
  rw [show 3 - 1 = 0 + 1 + 1 from rfl, tail_bt, tail_bt, tail_nil]
  simp
theorem len4 (s : ByteArray) (i : Nat) (lo hi : Int) : tailLen s i 4 lo hi = if (i + 1 < s.size ∧ lo ≤ (bt s i 1 : Int) ∧ (bt s i 1 : Int) ≤ hi) ∧ (i + 2 < s.size ∧ 128 ≤ (bt s i 2 : Int) ∧ (bt s i 2 : Int) ≤ 191) ∧ i + 3 < s.size ∧ 128 ≤ (bt s i 3 : Int) ∧ (bt s i 3 : Int) ≤ 191 then 4 else 0 := by
  unfold tailLen
  rw [show 4 - 1 = 0 + 1 + 1 + 1 from rfl, tail_bt, tail_bt, tail_bt, tail_nil]
  simp
set_option maxRecDepth 100000 in
set_option maxHeartbeats 4000000 in
theorem rune_decode (s : ByteArray) (i : Nat) (h0 : 128 ≤ bt s i 0) :
    runeN s i (bt s i 0) = (if (Utf8.decode s i).2 = 1 then 0 else ((Utf8.decode s i).2 : Int)) ∧
    ((Utf8.decode s i).2 = 1 → (Utf8.decode s i).1 = 65533) ∧ 1 ≤ (Utf8.decode s i).2 ∧ 128 ≤ (Utf8.decode s i).1 ∧
    ((Utf8.decode s i).1 = 65533 → ((Utf8.decode s i).2 ≠ 1 ↔ i + 2 < s.size ∧ bt s i 0 = 239 ∧ bt s i 1 = 191 ∧ bt s i 2 = 189)) := by
  have l1 := bt_lt s i 1
  have l2 := bt_lt s i 2
  have l3 := bt_lt s i 3
  have l0 := bt_lt s i 0
  have e := decode_bt s i
  generalize Utf8.decode s i = D at *
  simp only [runeN, len2, len3, len4]
  unfold Utf8.valid at e
  generalize bt s i 0 = b0 at *
  generalize bt s i 1 = b1 at *
  generalize bt s i 2 = b2 at *
  generalize bt s i 3 = b3 at *
  generalize s.size = n at *
  simp only [Bool.and_eq_true, Bool.or_eq_true, decide_eq_true_eq, beq_iff_eq, Nat.not_lt.2 h0, if_false] at e
  split at e
  · split at e
    · subst e
      dsimp only
      refine ⟨?_, fun h => absurd h (by decide), by decide, by omega, fun _ => ⟨fun _ => by omega, fun _ => by decide⟩⟩
      rw [if_neg (c := ((_ : Nat) = 1)) (by decide)]
      repeat' split
      all_goals omega
    · subst e
      dsimp only
      refine ⟨?_, fun _ => rfl, by decide, by decide, fun _ => ⟨fun h => absurd rfl h, fun h => by omega⟩⟩
      rw [if_pos rfl]
      repeat' split
      all_goals omega
  · split at e
    · split at e
      · subst e
        dsimp only
        refine ⟨?_, fun h => absurd h (by decide), by decide, by omega, fun _ => ⟨fun _ => by omega, fun _ => by decide⟩⟩
        rw [if_neg (c := ((_ : Nat) = 1)) (by decide)]
        repeat' split
        all_goals omega
      · subst e
        dsimp only
        refine ⟨?_, fun _ => rfl, by decide, by decide, fun _ => ⟨fun h => absurd rfl h, fun h => by omega⟩⟩
        rw [if_pos rfl]
        repeat' split
        all_goals omega
    · split at e
      · split at e
        · subst e
          dsimp only
          refine ⟨?_, fun h => absurd h (by decide), by decide, by omega, fun _ => ⟨fun _ => by omega, fun _ => by decide⟩⟩
          rw [if_neg (c := ((_ : Nat) = 1)) (by decide)]
          repeat' split
          all_goals omega
        · subst e
          dsimp only
          refine ⟨?_, fun _ => rfl, by decide, by decide, fun _ => ⟨fun h => absurd rfl h, fun h => by omega⟩⟩
          rw [if_pos rfl]
          repeat' split
          all_goals omega
      · subst e
        dsimp only
        refine ⟨?_, fun _ => rfl, by decide, by decide, fun _ => ⟨fun h => absurd rfl h, fun h => by omega⟩⟩
        rw [if_pos rfl]
        repeat' split
        all_goals omega
end Go.Proofs.Yteakeaclpcgopaa.Tk
namespace Go.Proofs.Yteakeaclpcgopaa.Tk
open Go.ChangeShapes Go.WideShapes Go.ChangeAt Go.RowKit
set_option linter.unusedVariables false
set_option maxRecDepth 100000 in
set_option maxHeartbeats 2000000 in
theorem runeA (s : ByteArray) (i : Nat) (w : World) (hi : i < s.size) (hs : s.size ≤ 1048576) (b : Int) (hb : (((s[i]'hi).toNat : Nat) : Int) = b) (b0 : 0 ≤ b) (b1 : b < 256) (c1 : b < 194) (c2 : ¬ 194 ≤ b) (c3 : ¬ 224 ≤ b) (c4 : ¬ 240 ≤ b) :
    Calls Try.prog 86 #[.string s, .int .i64 i] w fun r w' => r = .returned (.int .i64 0) ∧ w' = w := by
  have i0 : (0 : Int) ≤ (i : Int) := by omega
  have i1 : (i : Int) < (s.size : Int) := by omega
  go_enter Try.func86, Try.ntmps86
  go_wp2
  go_ret
  exact ⟨rfl, rfl⟩
set_option maxRecDepth 100000 in
set_option maxHeartbeats 2000000 in
theorem runeB (s : ByteArray) (i : Nat) (w : World) (hi : i < s.size) (hs : s.size ≤ 1048576) (b : Int) (hb : (((s[i]'hi).toNat : Nat) : Int) = b) (b0 : 0 ≤ b) (b1 : b < 256) (c1 : 194 ≤ b) (c2 : b ≤ 223) :
    Calls Try.prog 86 #[.string s, .int .i64 i] w fun r w' => r = .returned (.int .i64 (tailLen s i 2 128 191)) ∧ w' = w := by
  have i0 : (0 : Int) ≤ (i : Int) := by omega
  have i1 : (i : Int) < (s.size : Int) := by omega
  go_enter Try.func86, Try.ntmps86
  go_wp2
  obtain ⟨T, hT⟩ : ∃ T, tailOk s i 1 1 128 191 = T := ⟨_, rfl⟩
  have HT : Hid (tailLen s i 2 128 191 = if T = true then 2 else 0) := by show _ = _; unfold tailLen; rw [show 2 - 1 = 1 from rfl, hT]; rfl
  go_loopw [7, 8, 9] (fun l h kv wr => ∃ (f k : Nat) (lo hi : Int), l = .int .i64 lo ∧ h = .int .i64 hi ∧ kv = .int .i64 k ∧ k + f = 2 ∧ 1 ≤ k ∧ tailOk s i f k lo hi = T ∧ wr = w) (fun _ _ kv _ => 2 - (intOf kv).toNat)
  case atStart => exact ⟨1, 1, 128, 191, rfl, rfl, rfl, rfl, by omega, hT, rfl⟩
  case round =>
    obtain ⟨f, k, lo, hi', rfl, rfl, rfl, hk, k1, ht, hwr⟩ := hrel
    subst wr
    clear hT
    have HI : Hid (i < s.size) := hi
    rcases f with _ | f
    · obtain rfl : k = 2 := by omega
      simp only [tailOk] at ht
      subst ht
      go_wp2
      go_ret
      exact ⟨by rw [HT.out]; rfl, rfl⟩
    · have k2 : (k : Int) < 2 := by omega
      by_cases h : i + k < s.size
      · have e : (((s[i + k]'h).toNat : Nat) : Int) < 256 := by have := (s[i + k]'h).toNat_lt; omega
        simp only [tailOk, dif_pos h] at ht
        obtain ⟨x, hx⟩ : ∃ x : Int, (((s[i + k]'h).toNat : Nat) : Int) = x := ⟨_, rfl⟩
        rw [hx] at ht e
        have x0 : 0 ≤ x := by omega
        have q1 : ¬ (s.size : Int) ≤ (i : Int) + (k : Int) := by omega
        have q2 : (0 : Int) ≤ (i : Int) + (k : Int) := by omega
        have q3 : (i : Int) + (k : Int) < (s.size : Int) := by omega
        have q4 : ((i : Int) + (k : Int)).toNat = i + k := by omega
        have hx' : (((s[((i : Int) + (k : Int)).toNat]'(by omega)).toNat : Nat) : Int) = x := by rw [← hx]; simp only [q4]
        by_cases hl : x < lo
        · rw [if_pos (Or.inl hl)] at ht
          subst ht
          go_wp2
          go_ret
          exact ⟨by rw [HT.out]; rfl, rfl⟩
        · by_cases hh : hi' < x
          · rw [if_pos (Or.inr hh)] at ht
            subst ht
            go_wp2
            go_ret
            exact ⟨by rw [HT.out]; rfl, rfl⟩
          · rw [if_neg (by omega)] at ht
            have HT2 : Hid (tailOk s i f (k + 1) 128 191 = T) := ht
            clear ht
            go_wp2
            go_roundw
            case rel => exact ⟨f, k + 1, 128, 191, rfl, rfl, by go_num, by omega, by omega, HT2.out, by first | rfl | trivial⟩
            case measure => simp [intOf]; omega
      · simp only [tailOk, dif_neg h] at ht
        subst ht
        have q1 : (s.size : Int) ≤ (i : Int) + (k : Int) := by omega
        go_wp2
        go_ret
        exact ⟨by rw [HT.out]; rfl, rfl⟩
set_option maxRecDepth 100000 in
set_option maxHeartbeats 2000000 in
theorem runeC (s : ByteArray) (i : Nat) (w : World) (hi : i < s.size) (hs : s.size ≤ 1048576) (b : Int) (hb : (((s[i]'hi).toNat : Nat) : Int) = b) (b0 : 0 ≤ b) (b1 : b < 256) (c1 : b = 224) :
    Calls Try.prog 86 #[.string s, .int .i64 i] w fun r w' => r = .returned (.int .i64 (tailLen s i 3 160 191)) ∧ w' = w := by
  have i0 : (0 : Int) ≤ (i : Int) := by omega
  have i1 : (i : Int) < (s.size : Int) := by omega
  subst c1
  go_enter Try.func86, Try.ntmps86
  go_wp2
  obtain ⟨T, hT⟩ : ∃ T, tailOk s i 2 1 160 191 = T := ⟨_, rfl⟩
  have HT : Hid (tailLen s i 3 160 191 = if T = true then 3 else 0) := by show _ = _; unfold tailLen; rw [show 3 - 1 = 2 from rfl, hT]; rfl
  go_loopw [7, 8, 9] (fun l h kv wr => ∃ (f k : Nat) (lo hi : Int), l = .int .i64 lo ∧ h = .int .i64 hi ∧ kv = .int .i64 k ∧ k + f = 3 ∧ 1 ≤ k ∧ tailOk s i f k lo hi = T ∧ wr = w) (fun _ _ kv _ => 3 - (intOf kv).toNat)
  case atStart => exact ⟨2, 1, 160, 191, rfl, rfl, rfl, rfl, by omega, hT, rfl⟩
  case round =>
    obtain ⟨f, k, lo, hi', rfl, rfl, rfl, hk, k1, ht, hwr⟩ := hrel
    subst wr
    clear hT
    have HI : Hid (i < s.size) := hi
    rcases f with _ | f
    · obtain rfl : k = 3 := by omega
      simp only [tailOk] at ht
      subst ht
      go_wp2
      go_ret
      exact ⟨by rw [HT.out]; rfl, rfl⟩
    · have k2 : (k : Int) < 3 := by omega
      by_cases h : i + k < s.size
      · have e : (((s[i + k]'h).toNat : Nat) : Int) < 256 := by have := (s[i + k]'h).toNat_lt; omega
        simp only [tailOk, dif_pos h] at ht
        obtain ⟨x, hx⟩ : ∃ x : Int, (((s[i + k]'h).toNat : Nat) : Int) = x := ⟨_, rfl⟩
        rw [hx] at ht e
        have x0 : 0 ≤ x := by omega
        have q1 : ¬ (s.size : Int) ≤ (i : Int) + (k : Int) := by omega
        have q2 : (0 : Int) ≤ (i : Int) + (k : Int) := by omega
        have q3 : (i : Int) + (k : Int) < (s.size : Int) := by omega
        have q4 : ((i : Int) + (k : Int)).toNat = i + k := by omega
        have hx' : (((s[((i : Int) + (k : Int)).toNat]'(by omega)).toNat : Nat) : Int) = x := by rw [← hx]; simp only [q4]
        by_cases hl : x < lo
        · rw [if_pos (Or.inl hl)] at ht
          subst ht
          go_wp2
          go_ret
          exact ⟨by rw [HT.out]; rfl, rfl⟩
        · by_cases hh : hi' < x
          · rw [if_pos (Or.inr hh)] at ht
            subst ht
            go_wp2
            go_ret
            exact ⟨by rw [HT.out]; rfl, rfl⟩
          · rw [if_neg (by omega)] at ht
            have HT2 : Hid (tailOk s i f (k + 1) 128 191 = T) := ht
            clear ht
            go_wp2
            go_roundw
            case rel => exact ⟨f, k + 1, 128, 191, rfl, rfl, by go_num, by omega, by omega, HT2.out, by first | rfl | trivial⟩
            case measure => simp [intOf]; omega
      · simp only [tailOk, dif_neg h] at ht
        subst ht
        have q1 : (s.size : Int) ≤ (i : Int) + (k : Int) := by omega
        go_wp2
        go_ret
        exact ⟨by rw [HT.out]; rfl, rfl⟩
set_option maxRecDepth 100000 in
set_option maxHeartbeats 2000000 in
theorem runeD (s : ByteArray) (i : Nat) (w : World) (hi : i < s.size) (hs : s.size ≤ 1048576) (b : Int) (hb : (((s[i]'hi).toNat : Nat) : Int) = b) (b0 : 0 ≤ b) (b1 : b < 256) (c1 : 194 ≤ b) (c2 : ¬ b ≤ 223) (c3 : 224 ≤ b) (c4 : b ≤ 239) (c5 : ¬ b = 224) (c6 : ¬ b = 237) :
    Calls Try.prog 86 #[.string s, .int .i64 i] w fun r w' => r = .returned (.int .i64 (tailLen s i 3 128 191)) ∧ w' = w := by
  have i0 : (0 : Int) ≤ (i : Int) := by omega
  have i1 : (i : Int) < (s.size : Int) := by omega
  go_enter Try.func86, Try.ntmps86
  go_wp2
  obtain ⟨T, hT⟩ : ∃ T, tailOk s i 2 1 128 191 = T := ⟨_, rfl⟩
  have HT : Hid (tailLen s i 3 128 191 = if T = true then 3 else 0) := by show _ = _; unfold tailLen; rw [show 3 - 1 = 2 from rfl, hT]; rfl
  go_loopw [7, 8, 9] (fun l h kv wr => ∃ (f k : Nat) (lo hi : Int), l = .int .i64 lo ∧ h = .int .i64 hi ∧ kv = .int .i64 k ∧ k + f = 3 ∧ 1 ≤ k ∧ tailOk s i f k lo hi = T ∧ wr = w) (fun _ _ kv _ => 3 - (intOf kv).toNat)
  case atStart => exact ⟨2, 1, 128, 191, rfl, rfl, rfl, rfl, by omega, hT, rfl⟩
  case round =>
    obtain ⟨f, k, lo, hi', rfl, rfl, rfl, hk, k1, ht, hwr⟩ := hrel
    subst wr
    clear hT
    have HI : Hid (i < s.size) := hi
    rcases f with _ | f
    · obtain rfl : k = 3 := by omega
      simp only [tailOk] at ht
      subst ht
      go_wp2
      go_ret
      exact ⟨by rw [HT.out]; rfl, rfl⟩
    · have k2 : (k : Int) < 3 := by omega
      by_cases h : i + k < s.size
      · have e : (((s[i + k]'h).toNat : Nat) : Int) < 256 := by have := (s[i + k]'h).toNat_lt; omega
        simp only [tailOk, dif_pos h] at ht
        obtain ⟨x, hx⟩ : ∃ x : Int, (((s[i + k]'h).toNat : Nat) : Int) = x := ⟨_, rfl⟩
        rw [hx] at ht e
        have x0 : 0 ≤ x := by omega
        have q1 : ¬ (s.size : Int) ≤ (i : Int) + (k : Int) := by omega
        have q2 : (0 : Int) ≤ (i : Int) + (k : Int) := by omega
        have q3 : (i : Int) + (k : Int) < (s.size : Int) := by omega
        have q4 : ((i : Int) + (k : Int)).toNat = i + k := by omega
        have hx' : (((s[((i : Int) + (k : Int)).toNat]'(by omega)).toNat : Nat) : Int) = x := by rw [← hx]; simp only [q4]
        by_cases hl : x < lo
        · rw [if_pos (Or.inl hl)] at ht
          subst ht
          go_wp2
          go_ret
          exact ⟨by rw [HT.out]; rfl, rfl⟩
        · by_cases hh : hi' < x
          · rw [if_pos (Or.inr hh)] at ht
            subst ht
            go_wp2
            go_ret
            exact ⟨by rw [HT.out]; rfl, rfl⟩
          · rw [if_neg (by omega)] at ht
            have HT2 : Hid (tailOk s i f (k + 1) 128 191 = T) := ht
            clear ht
            go_wp2
            go_roundw
            case rel => exact ⟨f, k + 1, 128, 191, rfl, rfl, by go_num, by omega, by omega, HT2.out, by first | rfl | trivial⟩
            case measure => simp [intOf]; omega
      · simp only [tailOk, dif_neg h] at ht
        subst ht
        have q1 : (s.size : Int) ≤ (i : Int) + (k : Int) := by omega
        go_wp2
        go_ret
        exact ⟨by rw [HT.out]; rfl, rfl⟩
set_option maxRecDepth 100000 in
set_option maxHeartbeats 2000000 in
theorem runeE (s : ByteArray) (i : Nat) (w : World) (hi : i < s.size) (hs : s.size ≤ 1048576) (b : Int) (hb : (((s[i]'hi).toNat : Nat) : Int) = b) (b0 : 0 ≤ b) (b1 : b < 256) (c1 : b = 237) :
    Calls Try.prog 86 #[.string s, .int .i64 i] w fun r w' => r = .returned (.int .i64 (tailLen s i 3 128 159)) ∧ w' = w := by
  have i0 : (0 : Int) ≤ (i : Int) := by omega
  have i1 : (i : Int) < (s.size : Int) := by omega
  subst c1
  go_enter Try.func86, Try.ntmps86
  go_wp2
  obtain ⟨T, hT⟩ : ∃ T, tailOk s i 2 1 128 159 = T := ⟨_, rfl⟩
  have HT : Hid (tailLen s i 3 128 159 = if T = true then 3 else 0) := by show _ = _; unfold tailLen; rw [show 3 - 1 = 2 from rfl, hT]; rfl
  go_loopw [7, 8, 9] (fun l h kv wr => ∃ (f k : Nat) (lo hi : Int), l = .int .i64 lo ∧ h = .int .i64 hi ∧ kv = .int .i64 k ∧ k + f = 3 ∧ 1 ≤ k ∧ tailOk s i f k lo hi = T ∧ wr = w) (fun _ _ kv _ => 3 - (intOf kv).toNat)
  case atStart => exact ⟨2, 1, 128, 159, rfl, rfl, rfl, rfl, by omega, hT, rfl⟩
  case round =>
    obtain ⟨f, k, lo, hi', rfl, rfl, rfl, hk, k1, ht, hwr⟩ := hrel
    subst wr
    clear hT
    have HI : Hid (i < s.size) := hi
    rcases f with _ | f
    · obtain rfl : k = 3 := by omega
      simp only [tailOk] at ht
      subst ht
      go_wp2
      go_ret
      exact ⟨by rw [HT.out]; rfl, rfl⟩
    · have k2 : (k : Int) < 3 := by omega
      by_cases h : i + k < s.size
      · have e : (((s[i + k]'h).toNat : Nat) : Int) < 256 := by have := (s[i + k]'h).toNat_lt; omega
        simp only [tailOk, dif_pos h] at ht
        obtain ⟨x, hx⟩ : ∃ x : Int, (((s[i + k]'h).toNat : Nat) : Int) = x := ⟨_, rfl⟩
        rw [hx] at ht e
        have x0 : 0 ≤ x := by omega
        have q1 : ¬ (s.size : Int) ≤ (i : Int) + (k : Int) := by omega
        have q2 : (0 : Int) ≤ (i : Int) + (k : Int) := by omega
        have q3 : (i : Int) + (k : Int) < (s.size : Int) := by omega
        have q4 : ((i : Int) + (k : Int)).toNat = i + k := by omega
        have hx' : (((s[((i : Int) + (k : Int)).toNat]'(by omega)).toNat : Nat) : Int) = x := by rw [← hx]; simp only [q4]
        by_cases hl : x < lo
        · rw [if_pos (Or.inl hl)] at ht
          subst ht
          go_wp2
          go_ret
          exact ⟨by rw [HT.out]; rfl, rfl⟩
        · by_cases hh : hi' < x
          · rw [if_pos (Or.inr hh)] at ht
            subst ht
            go_wp2
            go_ret
            exact ⟨by rw [HT.out]; rfl, rfl⟩
          · rw [if_neg (by omega)] at ht
            have HT2 : Hid (tailOk s i f (k + 1) 128 191 = T) := ht
            clear ht
            go_wp2
            go_roundw
            case rel => exact ⟨f, k + 1, 128, 191, rfl, rfl, by go_num, by omega, by omega, HT2.out, by first | rfl | trivial⟩
            case measure => simp [intOf]; omega
      · simp only [tailOk, dif_neg h] at ht
        subst ht
        have q1 : (s.size : Int) ≤ (i : Int) + (k : Int) := by omega
        go_wp2
        go_ret
        exact ⟨by rw [HT.out]; rfl, rfl⟩
set_option maxRecDepth 100000 in
set_option maxHeartbeats 2000000 in
theorem runeF (s : ByteArray) (i : Nat) (w : World) (hi : i < s.size) (hs : s.size ≤ 1048576) (b : Int) (hb : (((s[i]'hi).toNat : Nat) : Int) = b) (b0 : 0 ≤ b) (b1 : b < 256) (c1 : b = 240) :
    Calls Try.prog 86 #[.string s, .int .i64 i] w fun r w' => r = .returned (.int .i64 (tailLen s i 4 144 191)) ∧ w' = w := by
  have i0 : (0 : Int) ≤ (i : Int) := by omega
  have i1 : (i : Int) < (s.size : Int) := by omega
  subst c1
  go_enter Try.func86, Try.ntmps86
  go_wp2
  obtain ⟨T, hT⟩ : ∃ T, tailOk s i 3 1 144 191 = T := ⟨_, rfl⟩
  have HT : Hid (tailLen s i 4 144 191 = if T = true then 4 else 0) := by show _ = _; unfold tailLen; rw [show 4 - 1 = 3 from rfl, hT]; rfl
  go_loopw [7, 8, 9] (fun l h kv wr => ∃ (f k : Nat) (lo hi : Int), l = .int .i64 lo ∧ h = .int .i64 hi ∧ kv = .int .i64 k ∧ k + f = 4 ∧ 1 ≤ k ∧ tailOk s i f k lo hi = T ∧ wr = w) (fun _ _ kv _ => 4 - (intOf kv).toNat)
  case atStart => exact ⟨3, 1, 144, 191, rfl, rfl, rfl, rfl, by omega, hT, rfl⟩
  case round =>
    obtain ⟨f, k, lo, hi', rfl, rfl, rfl, hk, k1, ht, hwr⟩ := hrel
    subst wr
    clear hT
    have HI : Hid (i < s.size) := hi
    rcases f with _ | f
    · obtain rfl : k = 4 := by omega
      simp only [tailOk] at ht
      subst ht
      go_wp2
      go_ret
      exact ⟨by rw [HT.out]; rfl, rfl⟩
    · have k2 : (k : Int) < 4 := by omega
      by_cases h : i + k < s.size
      · have e : (((s[i + k]'h).toNat : Nat) : Int) < 256 := by have := (s[i + k]'h).toNat_lt; omega
        simp only [tailOk, dif_pos h] at ht
        obtain ⟨x, hx⟩ : ∃ x : Int, (((s[i + k]'h).toNat : Nat) : Int) = x := ⟨_, rfl⟩
        rw [hx] at ht e
        have x0 : 0 ≤ x := by omega
        have q1 : ¬ (s.size : Int) ≤ (i : Int) + (k : Int) := by omega
        have q2 : (0 : Int) ≤ (i : Int) + (k : Int) := by omega
        have q3 : (i : Int) + (k : Int) < (s.size : Int) := by omega
        have q4 : ((i : Int) + (k : Int)).toNat = i + k := by omega
        have hx' : (((s[((i : Int) + (k : Int)).toNat]'(by omega)).toNat : Nat) : Int) = x := by rw [← hx]; simp only [q4]
        by_cases hl : x < lo
        · rw [if_pos (Or.inl hl)] at ht
          subst ht
          go_wp2
          go_ret
          exact ⟨by rw [HT.out]; rfl, rfl⟩
        · by_cases hh : hi' < x
          · rw [if_pos (Or.inr hh)] at ht
            subst ht
            go_wp2
            go_ret
            exact ⟨by rw [HT.out]; rfl, rfl⟩
          · rw [if_neg (by omega)] at ht
            have HT2 : Hid (tailOk s i f (k + 1) 128 191 = T) := ht
            clear ht
            go_wp2
            go_roundw
            case rel => exact ⟨f, k + 1, 128, 191, rfl, rfl, by go_num, by omega, by omega, HT2.out, by first | rfl | trivial⟩
            case measure => simp [intOf]; omega
      · simp only [tailOk, dif_neg h] at ht
        subst ht
        have q1 : (s.size : Int) ≤ (i : Int) + (k : Int) := by omega
        go_wp2
        go_ret
        exact ⟨by rw [HT.out]; rfl, rfl⟩
set_option maxRecDepth 100000 in
set_option maxHeartbeats 2000000 in
theorem runeG (s : ByteArray) (i : Nat) (w : World) (hi : i < s.size) (hs : s.size ≤ 1048576) (b : Int) (hb : (((s[i]'hi).toNat : Nat) : Int) = b) (b0 : 0 ≤ b) (b1 : b < 256) (c1 : 194 ≤ b) (c2 : ¬ b ≤ 223) (c3 : 224 ≤ b) (c4 : ¬ b ≤ 239) (c5 : 240 ≤ b) (c6 : b ≤ 244) (c7 : ¬ b = 240) (c8 : ¬ b = 244) :
    Calls Try.prog 86 #[.string s, .int .i64 i] w fun r w' => r = .returned (.int .i64 (tailLen s i 4 128 191)) ∧ w' = w := by
  have i0 : (0 : Int) ≤ (i : Int) := by omega
  have i1 : (i : Int) < (s.size : Int) := by omega
  go_enter Try.func86, Try.ntmps86
  go_wp2
  obtain ⟨T, hT⟩ : ∃ T, tailOk s i 3 1 128 191 = T := ⟨_, rfl⟩
  have HT : Hid (tailLen s i 4 128 191 = if T = true then 4 else 0) := by show _ = _; unfold tailLen; rw [show 4 - 1 = 3 from rfl, hT]; rfl
  go_loopw [7, 8, 9] (fun l h kv wr => ∃ (f k : Nat) (lo hi : Int), l = .int .i64 lo ∧ h = .int .i64 hi ∧ kv = .int .i64 k ∧ k + f = 4 ∧ 1 ≤ k ∧ tailOk s i f k lo hi = T ∧ wr = w) (fun _ _ kv _ => 4 - (intOf kv).toNat)
  case atStart => exact ⟨3, 1, 128, 191, rfl, rfl, rfl, rfl, by omega, hT, rfl⟩
  case round =>
    obtain ⟨f, k, lo, hi', rfl, rfl, rfl, hk, k1, ht, hwr⟩ := hrel
    subst wr
    clear hT
    have HI : Hid (i < s.size) := hi
    rcases f with _ | f
    · obtain rfl : k = 4 := by omega
      simp only [tailOk] at ht
      subst ht
      go_wp2
      go_ret
      exact ⟨by rw [HT.out]; rfl, rfl⟩
    · have k2 : (k : Int) < 4 := by omega
      by_cases h : i + k < s.size
      · have e : (((s[i + k]'h).toNat : Nat) : Int) < 256 := by have := (s[i + k]'h).toNat_lt; omega
        simp only [tailOk, dif_pos h] at ht
        obtain ⟨x, hx⟩ : ∃ x : Int, (((s[i + k]'h).toNat : Nat) : Int) = x := ⟨_, rfl⟩
        rw [hx] at ht e
        have x0 : 0 ≤ x := by omega
        have q1 : ¬ (s.size : Int) ≤ (i : Int) + (k : Int) := by omega
        have q2 : (0 : Int) ≤ (i : Int) + (k : Int) := by omega
        have q3 : (i : Int) + (k : Int) < (s.size : Int) := by omega
        have q4 : ((i : Int) + (k : Int)).toNat = i + k := by omega
        have hx' : (((s[((i : Int) + (k : Int)).toNat]'(by omega)).toNat : Nat) : Int) = x := by rw [← hx]; simp only [q4]
        by_cases hl : x < lo
        · rw [if_pos (Or.inl hl)] at ht
          subst ht
          go_wp2
          go_ret
          exact ⟨by rw [HT.out]; rfl, rfl⟩
        · by_cases hh : hi' < x
          · rw [if_pos (Or.inr hh)] at ht
            subst ht
            go_wp2
            go_ret
            exact ⟨by rw [HT.out]; rfl, rfl⟩
          · rw [if_neg (by omega)] at ht
            have HT2 : Hid (tailOk s i f (k + 1) 128 191 = T) := ht
            clear ht
            go_wp2
            go_roundw
            case rel => exact ⟨f, k + 1, 128, 191, rfl, rfl, by go_num, by omega, by omega, HT2.out, by first | rfl | trivial⟩
            case measure => simp [intOf]; omega
      · simp only [tailOk, dif_neg h] at ht
        subst ht
        have q1 : (s.size : Int) ≤ (i : Int) + (k : Int) := by omega
        go_wp2
        go_ret
        exact ⟨by rw [HT.out]; rfl, rfl⟩
set_option maxRecDepth 100000 in
set_option maxHeartbeats 2000000 in
theorem runeH (s : ByteArray) (i : Nat) (w : World) (hi : i < s.size) (hs : s.size ≤ 1048576) (b : Int) (hb : (((s[i]'hi).toNat : Nat) : Int) = b) (b0 : 0 ≤ b) (b1 : b < 256) (c1 : b = 244) :
    Calls Try.prog 86 #[.string s, .int .i64 i] w fun r w' => r = .returned (.int .i64 (tailLen s i 4 128 143)) ∧ w' = w := by
  have i0 : (0 : Int) ≤ (i : Int) := by omega
  have i1 : (i : Int) < (s.size : Int) := by omega
  subst c1
  go_enter Try.func86, Try.ntmps86
  go_wp2
  obtain ⟨T, hT⟩ : ∃ T, tailOk s i 3 1 128 143 = T := ⟨_, rfl⟩
  have HT : Hid (tailLen s i 4 128 143 = if T = true then 4 else 0) := by show _ = _; unfold tailLen; rw [show 4 - 1 = 3 from rfl, hT]; rfl
  go_loopw [7, 8, 9] (fun l h kv wr => ∃ (f k : Nat) (lo hi : Int), l = .int .i64 lo ∧ h = .int .i64 hi ∧ kv = .int .i64 k ∧ k + f = 4 ∧ 1 ≤ k ∧ tailOk s i f k lo hi = T ∧ wr = w) (fun _ _ kv _ => 4 - (intOf kv).toNat)
  case atStart => exact ⟨3, 1, 128, 143, rfl, rfl, rfl, rfl, by omega, hT, rfl⟩
  case round =>
    obtain ⟨f, k, lo, hi', rfl, rfl, rfl, hk, k1, ht, hwr⟩ := hrel
    subst wr
    clear hT
    have HI : Hid (i < s.size) := hi
    rcases f with _ | f
    · obtain rfl : k = 4 := by omega
      simp only [tailOk] at ht
      subst ht
      go_wp2
      go_ret
      exact ⟨by rw [HT.out]; rfl, rfl⟩
    · have k2 : (k : Int) < 4 := by omega
      by_cases h : i + k < s.size
      · have e : (((s[i + k]'h).toNat : Nat) : Int) < 256 := by have := (s[i + k]'h).toNat_lt; omega
        simp only [tailOk, dif_pos h] at ht
        obtain ⟨x, hx⟩ : ∃ x : Int, (((s[i + k]'h).toNat : Nat) : Int) = x := ⟨_, rfl⟩
        rw [hx] at ht e
        have x0 : 0 ≤ x := by omega
        have q1 : ¬ (s.size : Int) ≤ (i : Int) + (k : Int) := by omega
        have q2 : (0 : Int) ≤ (i : Int) + (k : Int) := by omega
        have q3 : (i : Int) + (k : Int) < (s.size : Int) := by omega
        have q4 : ((i : Int) + (k : Int)).toNat = i + k := by omega
        have hx' : (((s[((i : Int) + (k : Int)).toNat]'(by omega)).toNat : Nat) : Int) = x := by rw [← hx]; simp only [q4]
        by_cases hl : x < lo
        · rw [if_pos (Or.inl hl)] at ht
          subst ht
          go_wp2
          go_ret
          exact ⟨by rw [HT.out]; rfl, rfl⟩
        · by_cases hh : hi' < x
          · rw [if_pos (Or.inr hh)] at ht
            subst ht
            go_wp2
            go_ret
            exact ⟨by rw [HT.out]; rfl, rfl⟩
          · rw [if_neg (by omega)] at ht
            have HT2 : Hid (tailOk s i f (k + 1) 128 191 = T) := ht
            clear ht
            go_wp2
            go_roundw
            case rel => exact ⟨f, k + 1, 128, 191, rfl, rfl, by go_num, by omega, by omega, HT2.out, by first | rfl | trivial⟩
            case measure => simp [intOf]; omega
      · simp only [tailOk, dif_neg h] at ht
        subst ht
        have q1 : (s.size : Int) ≤ (i : Int) + (k : Int) := by omega
        go_wp2
        go_ret
        exact ⟨by rw [HT.out]; rfl, rfl⟩
set_option maxRecDepth 100000 in
set_option maxHeartbeats 2000000 in
theorem runeI (s : ByteArray) (i : Nat) (w : World) (hi : i < s.size) (hs : s.size ≤ 1048576) (b : Int) (hb : (((s[i]'hi).toNat : Nat) : Int) = b) (b0 : 0 ≤ b) (b1 : b < 256) (c1 : 194 ≤ b) (c2 : ¬ b ≤ 223) (c3 : 224 ≤ b) (c4 : ¬ b ≤ 239) (c5 : 240 ≤ b) (c6 : ¬ b ≤ 244) :
    Calls Try.prog 86 #[.string s, .int .i64 i] w fun r w' => r = .returned (.int .i64 0) ∧ w' = w := by
  have i0 : (0 : Int) ≤ (i : Int) := by omega
  have i1 : (i : Int) < (s.size : Int) := by omega
  go_enter Try.func86, Try.ntmps86
  go_wp2
  go_ret
  exact ⟨rfl, rfl⟩
/-- The rune's length, whatever the first byte. -/
theorem rune20 (s : ByteArray) (i : Nat) (w : World) (hi : i < s.size) (hs : s.size ≤ 1048576) :
    Calls Try.prog 86 #[.string s, .int .i64 i] w fun r w' => r = .returned (.int .i64 (runeN s i (bt s i 0))) ∧ w' = w := by
  obtain ⟨b, hb⟩ : ∃ b : Nat, bt s i 0 = b := ⟨_, rfl⟩
  have e : (((s[i]'hi).toNat : Nat) : Int) = (b : Int) := by rw [← hb]; exact congrArg Int.ofNat (bt_eq s i 0 hi)
  have b1 : b < 256 := by rw [← hb]; exact bt_lt s i 0
  rw [hb]
  unfold runeN
  by_cases c1 : b < 194
  · rw [if_pos c1]
    exact runeA s i w hi hs b e (by omega) (by omega) (by omega) (by omega) (by omega) (by omega)
  rw [if_neg c1]
  by_cases c2 : b ≤ 223
  · rw [if_pos c2]; exact runeB s i w hi hs b e (by omega) (by omega) (by omega) (by omega)
  rw [if_neg c2]
  by_cases c3 : b = 224
  · rw [if_pos c3]; exact runeC s i w hi hs b e (by omega) (by omega) (by omega)
  rw [if_neg c3]
  by_cases c4 : b = 237
  · rw [if_pos c4]; exact runeE s i w hi hs b e (by omega) (by omega) (by omega)
  rw [if_neg c4]
  by_cases c5 : b ≤ 239
  · rw [if_pos c5]; exact runeD s i w hi hs b e (by omega) (by omega) (by omega) (by omega) (by omega) (by omega) (by omega) (by omega)
  rw [if_neg c5]
  by_cases c6 : b = 240
  · rw [if_pos c6]; exact runeF s i w hi hs b e (by omega) (by omega) (by omega)
  rw [if_neg c6]
  by_cases c7 : b = 244
  · rw [if_pos c7]; exact runeH s i w hi hs b e (by omega) (by omega) (by omega)
  rw [if_neg c7]
  by_cases c8 : b ≤ 243
  · rw [if_pos c8]; exact runeG s i w hi hs b e (by omega) (by omega) (by omega) (by omega) (by omega) (by omega) (by omega) (by omega) (by omega) (by omega)
  rw [if_neg c8]
  exact runeI s i w hi hs b e (by omega) (by omega) (by omega) (by omega) (by omega) (by omega) (by omega) (by omega)
end Go.Proofs.Yteakeaclpcgopaa.Tk
namespace Go.Proofs.Yteakeaclpcgopaa.Tk
open Go.ChangeShapes Go.WideShapes Go.ChangeAt Go.RowKit
theorem texts_ne {a b : ByteArray} (h : ¬ a = b) : (a.toList == b.toList) = false := by
  rw [ByteArray.toList_eq, ByteArray.toList_eq]
  simp only [beq_eq_false_iff_ne, ne_eq]
  exact fun e => h (ByteArray.ext (Array.toList_inj.mp e))
theorem ret_bool {a b : Bool} (h : a = b) : Ending.returned (.bool a) = .returned (.bool b) := by rw [h]
def letB (b : Int) : Bool := decide (97 ≤ b ∧ b ≤ 122 ∨ 65 ≤ b ∧ b ≤ 90 ∨ b = 95)
def digB (b : Int) : Bool := decide (48 ≤ b ∧ b ≤ 57)
def runB (r : Int) (first : Bool) : Bool := if 48 ≤ r ∧ r ≤ 57 then !first else decide (97 ≤ r ∧ r ≤ 122 ∨ 65 ≤ r ∧ r ≤ 90 ∨ r = 95 ∨ 128 ≤ r)
/-- Whether a text is among the first n of a row. -/
def isIn (f : Nat → ByteArray) (s : ByteArray) : Nat → Bool
  | 0 => false
  | n + 1 => isIn f s n || decide (f n = s)
theorem isIn_true (f : Nat → ByteArray) (s : ByteArray) (k : Nat) (h : f k = s) : ∀ n, k < n → isIn f s n = true
  | 0, h0 => by omega
  | n + 1, h1 => by
    unfold isIn
    by_cases e : k = n
    · subst e; simp [h]
    · rw [isIn_true f s k h n (by omega)]; rfl
/-- How many bytes of a name's run the place begins, 0 where none. -/
def stepN (s : ByteArray) (i : Nat) (first : Bool) : Nat :=
  if 128 ≤ bt s i 0 then (runeN s i (bt s i 0)).toNat else if (letB (bt s i 0) || (digB (bt s i 0) && !first)) = true then 1 else 0
def nameRun (s : ByteArray) : Nat → Nat → Nat → Nat × Nat
  | 0, i, r => (i, r)
  | f + 1, i, r => if i < s.size then (if stepN s i (decide (r = 0)) = 0 then (i, r) else nameRun s f (i + stepN s i (decide (r = 0))) (r + 1)) else (i, r)
theorem nameRun_end (s : ByteArray) (f i r : Nat) (h : ¬ i < s.size) : nameRun s f i r = (i, r) := by
  cases f with
  | zero => rfl
  | succ f => rw [nameRun, if_neg h]
theorem nameRun_stop (s : ByteArray) (f i r : Nat) (h : stepN s i (decide (r = 0)) = 0) : nameRun s f i r = (i, r) := by
  cases f with
  | zero => rfl
  | succ f =>
    rw [nameRun]
    by_cases h1 : i < s.size
    · rw [if_pos h1, if_pos h]
    · rw [if_neg h1]
theorem step_le (s : ByteArray) (i : Nat) (first : Bool) (h : i < s.size) : i + stepN s i first ≤ s.size ∧ stepN s i first ≤ 4 := by
  unfold stepN
  split
  · unfold runeN
    simp only [len2, len3, len4]
    repeat' split
    all_goals simp
    all_goals omega
  · split <;> omega
set_option maxHeartbeats 1000000 in
theorem letter21 (b : Int) (w : World) (h0 : 0 ≤ b) (h1 : b < 256) : Calls Try.prog 87 #[.int .u8 b] w fun r w' => r = .returned (.bool (letB b)) ∧ w' = w := by
  obtain ⟨R, hR⟩ : ∃ R, letB b = R := ⟨_, rfl⟩
  rw [hR]
  have HR : Hid (letB b = R) := hR
  clear hR
  by_cases a1 : 97 ≤ b <;> by_cases a2 : b ≤ 122 <;> by_cases a3 : 65 ≤ b <;> by_cases a4 : b ≤ 90 <;> by_cases a5 : b = 95
  all_goals first | omega | (
    go_enter Try.func87, Try.ntmps87
    go_wp2
    go_ret
    exact ⟨by rw [← HR.out]; unfold letB; exact ret_bool (by first | (simp [*]; done) | (rw [Bool.eq_iff_iff]; simp; omega)), rfl⟩)
set_option maxHeartbeats 1000000 in
theorem digit22 (b : Int) (w : World) (h0 : 0 ≤ b) (h1 : b < 256) : Calls Try.prog 88 #[.int .u8 b] w fun r w' => r = .returned (.bool (digB b)) ∧ w' = w := by
  obtain ⟨R, hR⟩ : ∃ R, digB b = R := ⟨_, rfl⟩
  rw [hR]
  have HR : Hid (digB b = R) := hR
  clear hR
  by_cases a1 : 48 ≤ b <;> by_cases a2 : b ≤ 57
  all_goals first | omega | (
    go_enter Try.func88, Try.ntmps88
    go_wp2
    go_ret
    exact ⟨by rw [← HR.out]; unfold digB; exact ret_bool (by first | (simp [*]; done) | (rw [Bool.eq_iff_iff]; simp; omega)), rfl⟩)
set_option maxHeartbeats 2000000 in
theorem nameRune23 (r : Int) (first : Bool) (w : World) (h0 : 0 ≤ r) (h1 : r ≤ 2147483647) : Calls Try.prog 93 #[.int .i32 r, .bool first] w fun e w' => e = .returned (.bool (runB r first)) ∧ w' = w := by
  obtain ⟨R, hR⟩ : ∃ R, runB r first = R := ⟨_, rfl⟩
  rw [hR]
  have HR : Hid (runB r first = R) := hR
  clear hR
  by_cases d1 : 48 ≤ r ∧ r ≤ 57
  · obtain ⟨d1, d2⟩ := d1
    go_enter Try.func93, Try.ntmps93
    go_wp2
    go_ret
    exact ⟨by rw [← HR.out]; unfold runB; simp [*], rfl⟩
  · by_cases e1 : 48 ≤ r <;> by_cases e2 : r ≤ 57 <;> by_cases a1 : 97 ≤ r <;> by_cases a2 : r ≤ 122 <;> by_cases a3 : 65 ≤ r <;> by_cases a4 : r ≤ 90 <;> by_cases a5 : r = 95 <;> by_cases a6 : 128 ≤ r
    all_goals first | omega | (
      go_enter Try.func93, Try.ntmps93
      go_wp2
      go_ret
      exact ⟨by rw [← HR.out]; unfold runB; rw [if_neg d1]; exact ret_bool (by first | (simp [*]; done) | (rw [Bool.eq_iff_iff]; simp; omega)), rfl⟩)
set_option maxRecDepth 100000 in
set_option maxHeartbeats 1000000 in
theorem in17 (n a ca : Nat) (f : Nat → ByteArray) (s : ByteArray) (w : World) (hn : n ≤ 1048576) (ha : ∀ i, i < n → w.cell? ⟨a, i, none⟩ = some (.string (f i))) :
    Calls Try.prog 76 #[.slice (some ⟨a, 0, none⟩) n ca, .string s] w fun r w' => r = .returned (.bool (isIn f s n)) ∧ w' = w := by
  have HA : Hid (∀ i, i < n → w.cell? ⟨a, i, none⟩ = some (.string (f i))) := ha
  clear ha
  go_enter Try.func76, Try.ntmps76
  go_wp2
  go_loop [9] (fun i => ∃ k : Nat, k ≤ n ∧ i = .int .i64 k ∧ Hid (isIn f s k = false)) (fun i => n - (intOf i).toNat)
  case atStart => exact ⟨0, by omega, rfl, rfl⟩
  case round =>
    obtain ⟨k, hk, rfl, HK⟩ := hrel
    by_cases hkn : k < n
    · obtain ⟨t, ht⟩ : ∃ t, f k = t := ⟨_, rfl⟩
      have c1 : w.cell? ⟨a, k, none⟩ = some (.string t) := by rw [← ht]; exact HA.out k hkn
      have i0 : (0 : Int) ≤ (k : Int) := by omega
      have i1 : (k : Int) < (n : Int) := by omega
      have HT : Hid (f k = t) := ht
      clear ht
      by_cases hts : t = s
      · have HR : Hid (isIn f s n = true) := isIn_true f s k (HT.out.trans hts) n hkn
        subst hts
        go_wp2
        go_ret
        exact ⟨by rw [HR.out]; rfl, rfl⟩
      · have HN : Hid (isIn f s (k + 1) = false) := by show _ = _; unfold isIn; rw [HK.out, HT.out]; simp [hts]
        have hl := texts_ne hts
        go_wp2
        go_round
        case rel => exact ⟨k + 1, by omega, by go_num, HN⟩
        case measure => simp [intOf]; omega
    · have hkk : k = n := by omega
      subst hkk
      go_wp2
      go_ret
      exact ⟨by rw [HK.out]; rfl, rfl⟩
set_option maxRecDepth 100000 in
set_option maxHeartbeats 1000000 in
theorem index27 (n a ca : Nat) (f : Nat → ByteArray) (s : ByteArray) (w : World) (hn : n ≤ 1048576) (ha : ∀ i, i < n → w.cell? ⟨a, i, none⟩ = some (.string (f i))) :
    Calls Try.prog 79 #[.slice (some ⟨a, 0, none⟩) n ca, .string s] w fun r w' => (∃ v : Int, r = .returned (.int .i64 v) ∧ isIn f s n = decide (0 ≤ v)) ∧ w' = w := by
  have HA : Hid (∀ i, i < n → w.cell? ⟨a, i, none⟩ = some (.string (f i))) := ha
  clear ha
  go_enter Try.func79, Try.ntmps79
  go_wp2
  go_loop [8] (fun i => ∃ k : Nat, k ≤ n ∧ i = .int .i64 k ∧ Hid (isIn f s k = false)) (fun i => n - (intOf i).toNat)
  case atStart => exact ⟨0, by omega, rfl, rfl⟩
  case round =>
    obtain ⟨k, hk, rfl, HK⟩ := hrel
    by_cases hkn : k < n
    · obtain ⟨t, ht⟩ : ∃ t, f k = t := ⟨_, rfl⟩
      have c1 : w.cell? ⟨a, k, none⟩ = some (.string t) := by rw [← ht]; exact HA.out k hkn
      have i0 : (0 : Int) ≤ (k : Int) := by omega
      have i1 : (k : Int) < (n : Int) := by omega
      have HT : Hid (f k = t) := ht
      clear ht
      by_cases hts : s = t
      · have HR : Hid (isIn f s n = true) := isIn_true f s k (HT.out.trans hts.symm) n hkn
        subst hts
        go_wp2
        go_ret
        exact ⟨⟨_, rfl, by rw [HR.out]; simp⟩, rfl⟩
      · have HN : Hid (isIn f s (k + 1) = false) := by show _ = _; unfold isIn; rw [HK.out, HT.out]; simp; exact fun h => hts h.symm
        have hl := texts_ne hts
        go_wp2
        go_round
        case rel => exact ⟨k + 1, by omega, by go_num, HN⟩
        case measure => simp [intOf]; omega
    · have hkk : k = n := by omega
      subst hkk
      go_wp2
      go_ret
      exact ⟨⟨-1, rfl, by rw [HK.out]; simp⟩, rfl⟩
end Go.Proofs.Yteakeaclpcgopaa.Tk
namespace Go.Proofs.Yteakeaclpcgopaa.Tk
open Go.ChangeShapes Go.WideShapes Go.ChangeAt Go.RowKit
set_option linter.unusedVariables false
theorem of_dec {p : Prop} [Decidable p] {b : Bool} (h : decide p = b) : if b then p else ¬ p := by cases b <;> simpa using h
theorem step_zero (s : ByteArray) (i r : Nat) (h : i < s.size) (b : Int) (hb : ((bt s i 0 : Nat) : Int) = b) (h1 : b < 128) : stepN s i (decide (r = 0)) = if (letB b || (digB b && decide (0 < (r : Int)))) = true then 1 else 0 := by
  unfold stepN
  rw [if_neg (by omega), hb]
  have e : (!decide (r = 0)) = decide (0 < (r : Int)) := by
    rw [Bool.eq_iff_iff]; simp; omega
  rw [e]
set_option maxRecDepth 100000 in
set_option maxHeartbeats 2000000 in
theorem run16 (s : ByteArray) (w : World) (hs : s.size ≤ 1048576) :
    Calls Try.prog 75 #[.string s, .int .i64 0] w fun r w' => r = .returned (.tuple #[.int .i64 ((nameRun s s.size 0 0).1 : Nat), .int .i64 ((nameRun s s.size 0 0).2 : Nat)]) ∧ w' = w := by
  obtain ⟨R, hR⟩ : ∃ R, nameRun s s.size 0 0 = R := ⟨_, rfl⟩
  rw [hR]
  have HR0 : Hid (nameRun s s.size 0 0 = R) := hR
  clear hR
  have hs' : (s.size : Int) ≤ 1048576 := by omega
  go_enter Try.func75, Try.ntmps75
  go_wp2
  go_loop [1, 6] (fun iv rv => ∃ f i r : Nat, iv = .int .i64 i ∧ rv = .int .i64 r ∧ i ≤ s.size ∧ r ≤ i ∧ s.size ≤ i + f ∧ Hid (nameRun s f i r = R)) (fun iv _ => s.size - (intOf iv).toNat)
  case atStart => exact ⟨s.size, 0, 0, rfl, rfl, by omega, by omega, by omega, HR0⟩
  case round =>
    obtain ⟨f, i, r, rfl, rfl, hi, hr, hf, HR⟩ := hrel
    by_cases hlt : i < s.size
    · obtain ⟨f, rfl⟩ : ∃ g, f = g + 1 := ⟨f - 1, by omega⟩
      have hl := step_le s i (decide (r = 0)) hlt
      have i0 : (0 : Int) ≤ (i : Int) := by omega
      have i1 : (i : Int) < (s.size : Int) := by omega
      obtain ⟨b, hb⟩ : ∃ b : Int, ((bt s i 0 : Nat) : Int) = b := ⟨_, rfl⟩
      have hB : (((s[i]'hlt).toNat : Nat) : Int) = b := by rw [← hb]; exact congrArg Int.ofNat (bt_eq s i 0 hlt)
      have b0 : 0 ≤ b := by omega
      have b1 : b < 256 := by have := bt_lt s i 0; omega
      obtain ⟨N, hN⟩ : ∃ N, stepN s i (decide (r = 0)) = N := ⟨_, rfl⟩
      rw [hN] at hl
      have HS : Hid (if N = 0 then (i, r) = R else nameRun s f (i + N) (r + 1) = R) := by
        show if N = 0 then (i, r) = R else nameRun s f (i + N) (r + 1) = R
        have h := HR.out
        rw [nameRun, if_pos hlt, hN] at h
        split
        · rename_i h0; rw [if_pos h0] at h; exact h
        · rename_i h0; rw [if_neg h0] at h; exact h
      by_cases h128 : 128 ≤ b
      · have eN : runeN s i (bt s i 0) = (N : Int) := by
          have h1 := (rune_decode s i (by omega)).1
          have h2 : 0 ≤ runeN s i (bt s i 0) := by rw [h1]; split <;> omega
          rw [← hN]; unfold stepN; rw [if_pos (by omega)]; omega
        have hrun := rune20 s i w hlt hs
        rw [eN] at hrun
        have HRUN : Hid (Calls Try.prog 86 #[.string s, .int .i64 i] w fun r w' => r = .returned (.int .i64 (N : Int)) ∧ w' = w) := hrun
        have HLT : Hid (i < s.size) := hlt
        clear hrun eN hN hb
        by_cases n0 : N = 0
        · subst n0
          have HE : Hid ((i, r) = R) := by have := HS.out; rw [if_pos rfl] at this; exact this
          clear HS
          go_wp2_with (go_at_call 86; refine (Hid.out HRUN).mono ?_; rintro e w' ⟨rfl, hw⟩; subst w')
          go_ret2
          exact ⟨by rw [← HE.out]; rfl, rfl⟩
        · have HE : Hid (nameRun s f (i + N) (r + 1) = R) := by have := HS.out; rw [if_neg n0] at this; exact this
          have n0' : ¬ (N : Int) = 0 := by omega
          clear HS
          go_wp2_with (go_at_call 86; refine (Hid.out HRUN).mono ?_; rintro e w' ⟨rfl, hw⟩; subst w')
          go_round
          case rel => exact ⟨f, i + N, r + 1, by go_num, by go_num, by omega, by omega, by omega, HE⟩
          case measure => simp [intOf]; omega
      · have eN : N = if (letB b || (digB b && decide (0 < (r : Int)))) = true then 1 else 0 := by rw [← hN]; exact step_zero s i r hlt b hb (by omega)
        have hlet := letter21 b w b0 b1
        have hdig := digit22 b w b0 b1
        obtain ⟨L, hL⟩ : ∃ L, letB b = L := ⟨_, rfl⟩
        obtain ⟨D, hD⟩ : ∃ D, digB b = D := ⟨_, rfl⟩
        rw [hL] at eN hlet
        rw [hD] at eN hdig
        have HLET : Hid (Calls Try.prog 87 #[.int .u8 b] w fun r w' => r = .returned (.bool L) ∧ w' = w) := hlet
        have HDIG : Hid (Calls Try.prog 88 #[.int .u8 b] w fun r w' => r = .returned (.bool D) ∧ w' = w) := hdig
        have EN : Hid (N = if (L || (D && decide (0 < (r : Int)))) = true then 1 else 0) := eN
        clear hlet hdig hL hD hN hb eN
        obtain ⟨P, hP⟩ : ∃ P, decide (0 < r) = P := ⟨_, rfl⟩
        have eP : decide ((0 : Int) < (r : Int)) = P := by rw [← hP, Bool.eq_iff_iff]; simp
        have EP : Hid (decide ((0 : Int) < (r : Int)) = P) := eP
        clear eP
        cases P <;> cases L <;> cases D
        all_goals
          have en := EN.out
          rw [EP.out] at en
          have r0 := of_dec hP
          simp only [if_true, Bool.false_eq_true, if_false] at r0
          simp at en
          subst en
          clear EN
          first
          | (have HE : Hid ((i, r) = R) := by have := HS.out; rw [if_pos rfl] at this; exact this
             clear HS
             go_wp2_with (first | (go_at_call 87; refine (Hid.out HLET).mono ?_; rintro e w' ⟨rfl, hw⟩; subst w') | (go_at_call 88; refine (Hid.out HDIG).mono ?_; rintro e w' ⟨rfl, hw⟩; subst w'))
             go_ret2
             exact ⟨by rw [← HE.out]; rfl, rfl⟩)
          | (have HE : Hid (nameRun s f (i + 1) (r + 1) = R) := by have := HS.out; rw [if_neg (by decide)] at this; exact this
             clear HS
             go_wp2_with (first | (go_at_call 87; refine (Hid.out HLET).mono ?_; rintro e w' ⟨rfl, hw⟩; subst w') | (go_at_call 88; refine (Hid.out HDIG).mono ?_; rintro e w' ⟨rfl, hw⟩; subst w'))
             go_round
             case rel => exact ⟨f, i + 1, r + 1, by go_num, by go_num, by omega, by omega, by omega, HE⟩
             case measure => simp [intOf]; omega)
    · have hii : i = s.size := by omega
      have HE : Hid ((i, r) = R) := by have := HR.out; rw [nameRun_end s f i r hlt] at this; exact this
      have hlt' : ¬ (i : Int) < (s.size : Int) := by omega
      clear hii
      go_wp2
      go_ret2
      exact ⟨by rw [← HE.out]; rfl, rfl⟩
end Go.Proofs.Yteakeaclpcgopaa.Tk
namespace Go.Proofs.Yteakeaclpcgopaa.Tk
open Go.ChangeShapes Go.WideShapes Go.ChangeAt Go.RowKit
set_option linter.unusedVariables false
def preB (s p : ByteArray) : Bool := if p.size ≤ s.size then ((s.extract 0 p.size).toList == p.toList) else false
theorem cut3 (s : ByteArray) (i : Nat) (h : i + 2 < s.size) : ((s.extract i s.size).extract 0 3).data.toList = [s[i]'(by omega), s[i + 1]'(by omega), s[i + 2]'h] := by
  apply List.ext_getElem
  · rw [Array.length_toList, ByteArray.size_data, ByteArray.size_extract, ByteArray.size_extract]
    show _ = 3
    omega
  · intro k h1 h2
    simp at h2
    rcases (by omega : k = 0 ∨ k = 1 ∨ k = 2) with rfl | rfl | rfl <;> simp <;> rfl
theorem pre_rune (s : ByteArray) (i : Nat) (hi : i ≤ s.size) : preB (s.extract i s.size) ⟨#[239, 191, 189]⟩ = decide (i + 2 < s.size ∧ bt s i 0 = 239 ∧ bt s i 1 = 191 ∧ bt s i 2 = 189) := by
  have hz : (s.extract i s.size).size = s.size - i := by simp
  unfold preB
  rw [show (⟨#[239, 191, 189]⟩ : ByteArray).size = 3 from rfl, hz]
  by_cases h : i + 2 < s.size
  · rw [if_pos (by omega), ByteArray.toList_eq, ByteArray.toList_eq, cut3 s i h]
    have e0 := bt_eq s i 0 (by omega)
    have e1 := bt_eq s i 1 (by omega)
    have e2 := bt_eq s i 2 (by omega)
    rw [Bool.eq_iff_iff, ← e0, ← e1, ← e2]
    simp [h, ← UInt8.toNat_inj]
  · rw [if_neg (by omega)]; simp [h]
set_option maxHeartbeats 1000000 in
theorem prefix28 (s p : ByteArray) (w : World) : Calls Try.prog 97 #[.string s, .string p] w fun e w' => e = .returned (.bool (preB s p)) ∧ w' = w := by
  obtain ⟨R, hR⟩ : ∃ R, preB s p = R := ⟨_, rfl⟩
  rw [hR]
  have HR : Hid (preB s p = R) := hR
  clear hR
  go_enter Try.func97, Try.ntmps97
  go_wp2
  · rename_i h
    go_ret
    refine ⟨?_, rfl⟩
    rw [← HR.out]; unfold preB
    show Ending.returned (Value.bool ((s.extract 0 p.size).toList == p.toList)) = _
    rw [if_pos (by omega)]
  · rename_i h
    go_ret
    refine ⟨?_, rfl⟩
    rw [← HR.out]; unfold preB
    show Ending.returned (Value.bool false) = _
    rw [if_neg (by omega)]
theorem prefix26 (s p : ByteArray) (w : World) : Calls Try.prog 96 #[.string s, .string p] w fun e w' => e = .returned (.bool (preB s p)) ∧ w' = w := by
  go_enter Try.func96, Try.ntmps96
  go_wp2_with (go_at_call 97; refine (prefix28 _ _ _).mono ?_; rintro e w' ⟨rfl, hw⟩; subst w')
  go_ret
  exact ⟨rfl, rfl⟩
theorem whole24 (s : ByteArray) (r : Int) (w : World) (h : ¬ r = 65533) : Calls Try.prog 94 #[.string s, .int .i32 r] w fun e w' => e = .returned (.bool false) ∧ w' = w := by
  have h' : (r == 65533) = false := by simpa using h
  go_enter Try.func94, Try.ntmps94
  go_wp2
  go_ret
  exact ⟨rfl, rfl⟩
theorem broken24 (s : ByteArray) (B : Bool) (w : World) (h : preB s ⟨#[239, 191, 189]⟩ = B) : Calls Try.prog 94 #[.string s, .int .i32 65533] w fun e w' => e = .returned (.bool (!B)) ∧ w' = w := by
  have HP : Hid (Calls Try.prog 96 #[.string s, .string ⟨#[239, 191, 189]⟩] w fun e w' => e = .returned (.bool B) ∧ w' = w) := by have := prefix26 s ⟨#[239, 191, 189]⟩ w; rw [h] at this; exact this
  clear h
  go_enter Try.func94, Try.ntmps94
  go_wp2_with (go_at_call 96; refine (Hid.out HP).mono ?_; rintro e w' ⟨rfl, hw⟩; subst w')
  go_ret
  exact ⟨rfl, rfl⟩
/-- What a round of the program's loop does: goes on by as many bytes as the rune has, or stops. -/
theorem step_cases (s : ByteArray) (i r : Nat) (h : i < s.size) (hz : i = 0 ↔ r = 0) (w : World) :
    (stepN s i (decide (r = 0)) = 0 ∧ runB (Utf8.decode s i).1 (decide (i = 0)) = false) ∨
    (stepN s i (decide (r = 0)) = 0 ∧ runB (Utf8.decode s i).1 (decide (i = 0)) = true ∧ Calls Try.prog 94 #[.string (s.extract i s.size), .int .i32 (Utf8.decode s i).1] w fun e w' => e = .returned (.bool true) ∧ w' = w) ∨
    (stepN s i (decide (r = 0)) = (Utf8.decode s i).2 ∧ 0 < (Utf8.decode s i).2 ∧ runB (Utf8.decode s i).1 (decide (i = 0)) = true ∧ Calls Try.prog 94 #[.string (s.extract i s.size), .int .i32 (Utf8.decode s i).1] w fun e w' => e = .returned (.bool false) ∧ w' = w) := by
  have hp := pre_rune s i (by omega)
  by_cases h1 : 128 ≤ bt s i 0
  · obtain ⟨q1, q2, q3, q4, q5⟩ := rune_decode s i h1
    have er : runB (Utf8.decode s i).1 (decide (i = 0)) = true := by
      unfold runB; rw [if_neg (by omega)]; simp; omega
    have es : stepN s i (decide (r = 0)) = if (Utf8.decode s i).2 = 1 then 0 else (Utf8.decode s i).2 := by
      unfold stepN; rw [if_pos h1, q1]; split <;> simp
    by_cases hb : (Utf8.decode s i).2 = 1
    · refine Or.inr (Or.inl ⟨by rw [es, if_pos hb], er, ?_⟩)
      have e1 := q2 hb
      have hq : ¬ (i + 2 < s.size ∧ bt s i 0 = 239 ∧ bt s i 1 = 191 ∧ bt s i 2 = 189) := fun hh => ((q5 e1).2 hh) hb
      rw [decide_eq_false hq] at hp
      rw [e1]
      exact broken24 _ false w hp
    · refine Or.inr (Or.inr ⟨by rw [es, if_neg hb], q3, er, ?_⟩)
      by_cases e1 : (Utf8.decode s i).1 = 65533
      · have hq := (q5 e1).1 hb
        rw [decide_eq_true hq] at hp
        rw [e1]
        exact broken24 _ true w hp
      · exact whole24 _ _ w (by omega)
  · have e0 := bt_eq s i 0 h
    have ed := decode_ascii s i h (by rw [show (s[i]'h).toNat = bt s i 0 from e0]; omega)
    have eb : (s[i]'h).toNat = bt s i 0 := e0
    rw [eb] at ed
    rw [ed]
    have b1 := bt_lt s i 0
    have ez : (!decide (r = 0)) = !decide (i = 0) := by rw [Bool.eq_iff_iff]; simp; omega
    have es : stepN s i (decide (r = 0)) = if runB (bt s i 0) (decide (i = 0)) = true then 1 else 0 := by
      unfold stepN; rw [if_neg h1, ez]
      congr 1
      unfold letB digB runB
      by_cases d : 48 ≤ ((bt s i 0 : Nat) : Int) ∧ ((bt s i 0 : Nat) : Int) ≤ 57
      · rw [if_pos d]
        simp
        omega
      · rw [if_neg d]
        simp
        omega
    by_cases hr : runB (bt s i 0) (decide (i = 0)) = true
    · exact Or.inr (Or.inr ⟨by rw [es, if_pos hr], by show 0 < 1; decide, hr, whole24 _ _ w (by show ¬ ((bt s i 0 : Nat) : Int) = 65533; omega)⟩)
    · exact Or.inl ⟨by rw [es, if_neg hr], by simpa using hr⟩
set_option maxRecDepth 100000 in
set_option maxHeartbeats 2000000 in
theorem ahead18 (s : ByteArray) (w : World) (hs : s.size ≤ 1048576) :
    Calls Try.prog 89 #[.string s] w fun r w' => r = .returned (.tuple #[.int .i64 ((nameRun s s.size 0 0).1 : Nat), .int .i64 ((nameRun s s.size 0 0).2 : Nat)]) ∧ Below w.heap.size w w' := by
  obtain ⟨R, hR⟩ : ∃ R, nameRun s s.size 0 0 = R := ⟨_, rfl⟩
  rw [hR]
  have HR0 : Hid (nameRun s s.size 0 0 = R) := hR
  clear hR
  have hs' : (s.size : Int) ≤ 1048576 := by omega
  have HB : Hid (∀ i, Below w.heap.size w (w.iter s i)) := fun i => (Below.refl _ _).alloc (Nat.le_refl _) _
  go_enter Try.func89, Try.ntmps89
  go_wp2
  go_loopw [4] (fun rv wr => ∃ f i r : Nat, rv = .int .i64 r ∧ wr = w.iter s i ∧ i ≤ s.size ∧ r ≤ i ∧ Hid (i = 0 ↔ r = 0) ∧ s.size ≤ i + f ∧ Hid (nameRun s f i r = R)) (fun _ wr => s.size - wr.iterPos w.heap.size)
  case atStart => exact ⟨s.size, 0, 0, rfl, rfl, by omega, by omega, Iff.rfl, by omega, HR0⟩
  case round =>
    obtain ⟨f, i, r, rfl, rfl, hi, hr, hz, hf, HR⟩ := hrel
    by_cases hlt : i < s.size
    · have hnx : ∀ ty, (Instr.next (.pointer (some ⟨w.heap.size, 0, none⟩)) true ty).run Try.prog (w.iter s i) = .ok (.tuple #[.bool true, .int .i64 i, .int .i32 (Utf8.decode s i).1]) (w.iter s (i + (Utf8.decode s i).2)) := fun ty => run_next_any w s i ty hlt
      have hsc := step_cases s i r hlt hz.out (w.iter s (i + (Utf8.decode s i).2))
      have hl := step_le s i (decide (r = 0)) hlt
      have hd1 := decode_le s i
      obtain ⟨f, rfl⟩ : ∃ g, f = g + 1 := ⟨f - 1, by omega⟩
      have i0 : (0 : Int) ≤ (i : Int) := by omega
      have i1 : (i : Int) ≤ (s.size : Int) := by omega
      obtain ⟨N, hN⟩ : ∃ N, stepN s i (decide (r = 0)) = N := ⟨_, rfl⟩
      rw [hN] at hl hsc
      have HS : Hid (if N = 0 then (i, r) = R else nameRun s f (i + N) (r + 1) = R) := by
        show if N = 0 then (i, r) = R else nameRun s f (i + N) (r + 1) = R
        have h := HR.out
        rw [nameRun, if_pos hlt, hN] at h
        split
        · rename_i h0; rw [if_pos h0] at h; exact h
        · rename_i h0; rw [if_neg h0] at h; exact h
      obtain ⟨D1, hD1⟩ : ∃ D, (Utf8.decode s i).1 = D := ⟨_, rfl⟩
      obtain ⟨D2, hD2⟩ : ∃ D, (Utf8.decode s i).2 = D := ⟨_, rfl⟩
      rw [hD1, hD2] at hsc hnx
      rw [hD1] at hd1
      have d0 : (0 : Int) ≤ (D1 : Int) := by omega
      have d1 : (D1 : Int) ≤ 2147483647 := by omega
      have HNR := nameRune23 (D1 : Int) (decide (i = 0)) (w.iter s (i + D2)) d0 d1
      obtain ⟨X, hX⟩ : ∃ X, s.extract i s.size = X := ⟨_, rfl⟩
      rw [hX] at hsc
      have HNRX : Hid (∀ b, runB D1 (decide (i = 0)) = b → Calls Try.prog 93 #[.int .i32 D1, .bool (decide (i = 0))] (w.iter s (i + D2)) fun e w' => e = .returned (.bool b) ∧ w' = w.iter s (i + D2)) := fun b hb => by rw [← hb]; exact HNR
      have HLT : Hid (i < s.size) := hlt
      clear hD1 hD2 hN HNR HR hlt
      obtain ⟨F, hF⟩ : ∃ F, decide (i = 0) = F := ⟨_, rfl⟩
      have zF : ((i : Int) == 0) = F := by rw [← hF, Bool.eq_iff_iff]; simp
      rw [hF] at hsc HNRX
      have HX : Hid (s.extract i s.size = X) := hX
      clear hF
      rcases hsc with ⟨n0, hrb⟩ | ⟨n0, hrb, hbr⟩ | ⟨n0, n1, hrb, hbr⟩
      · have HC := HNRX.out _ hrb
        have HE : Hid ((i, r) = R) := by have := HS.out; rw [if_pos n0] at this; exact this
        clear HS HNRX hrb n0
        go_wp2_with (first | (go_at_call 93; refine HC.mono ?_; rintro e w' ⟨rfl, hw⟩; subst w'))
        go_ret2
        exact ⟨by rw [← HE.out]; rfl, HB.out _⟩
      · have HC := HNRX.out _ hrb
        have HE : Hid ((i, r) = R) := by have := HS.out; rw [if_pos n0] at this; exact this
        clear HS HNRX hrb n0
        go_wp2_with (first | (go_at_call 93; refine HC.mono ?_; rintro e w' ⟨rfl, hw⟩; subst w') | (go_at_call 94; refine hbr.mono ?_; rintro e w' ⟨rfl, hw⟩; subst w'))
        go_ret2
        exact ⟨by rw [← HE.out]; rfl, HB.out _⟩
      · have HC := HNRX.out _ hrb
        have HE : Hid (nameRun s f (i + D2) (r + 1) = R) := by have := HS.out; rw [n0, if_neg (by omega)] at this; exact this
        have r1 : (r : Int) ≤ 1048576 := by omega
        clear HS HNRX hrb
        go_wp2_with (first | (go_at_call 93; refine HC.mono ?_; rintro e w' ⟨rfl, hw⟩; subst w') | (go_at_call 94; refine hbr.mono ?_; rintro e w' ⟨rfl, hw⟩; subst w'))
        go_roundw
        case rel => exact ⟨f, i + D2, r + 1, by go_num, rfl, by omega, by omega, by show _ ↔ _; omega, by omega, HE⟩
        case measure => rw [World.iterPos_iter, World.iterPos_iter]; have := HLT.out; omega
    · have hii : i = s.size := by omega
      have HE : Hid ((i, r) = R) := by have := HR.out; rw [nameRun_end s f i r hlt] at this; exact this
      have hnx : ∀ ty, (Instr.next (.pointer (some ⟨w.heap.size, 0, none⟩)) true ty).run Try.prog (w.iter s i) = .ok (.tuple #[.bool false]) (w.iter s i) := fun ty => run_next_end w s i ty hlt
      have HI : Hid (i = s.size) := hii
      clear hii
      go_wp2
      go_ret2
      exact ⟨by rw [← HE.out, ← HI.out]; rfl, HB.out _⟩
end Go.Proofs.Yteakeaclpcgopaa.Tk
namespace Go.Proofs.Yteakeaclpcgopaa.Tk
open Go.ChangeShapes Go.WideShapes Go.ChangeAt Go.RowKit
set_option linter.unusedVariables false
theorem contains25 (n a ca : Nat) (f : Nat → ByteArray) (s : ByteArray) (w : World) (hn : n ≤ 1048576) (ha : ∀ i, i < n → w.cell? ⟨a, i, none⟩ = some (.string (f i))) :
    Calls Try.prog 41 #[.slice (some ⟨a, 0, none⟩) n ca, .string s] w fun r w' => r = .returned (.bool (isIn f s n)) ∧ w' = w := by
  have h := index27 n a ca f s w hn ha
  have H : Hid (Calls Try.prog 79 #[.slice (some ⟨a, 0, none⟩) n ca, .string s] w fun r w' => (∃ v : Int, r = .returned (.int .i64 v) ∧ isIn f s n = decide (0 ≤ v)) ∧ w' = w) := h
  clear h ha
  go_enter Try.func41, Try.ntmps41
  go_wp2_with (go_at_call 79; refine (Hid.out H).mono ?_; rintro e w' ⟨⟨v, rfl, hv⟩, hw⟩; subst w'; have HV : Hid (isIn f s n = decide (0 ≤ v)) := hv; clear hv)
  go_ret
  exact ⟨by rw [HV.out]; rfl, rfl⟩
theorem word19 (s : ByteArray) (w : World) : Calls Try.prog 90 #[.string s] w fun r w' => r = .returned (.bool (isIn (textAt wordsL) s 13)) ∧ Below w.heap.size w w' := by
  go_enter Try.func90, Try.ntmps90
  go_wp2_with (first | (go_at_call 95; refine (lit7 w).mono ?_; rintro e w1 ⟨rfl, S1, B1⟩) | (go_at_call 41; refine (contains25 13 w.heap.size 13 (textAt wordsL) s w1 (by omega) S1.cell).mono ?_; rintro e w' ⟨rfl, hw⟩; subst w'))
  go_ret
  exact ⟨rfl, B1⟩
/-- Whether a text is a name. -/
def goodB (s : ByteArray) : Bool := if 0 < s.size ∧ (nameRun s s.size 0 0).1 = s.size ∧ (nameRun s s.size 0 0).2 ≤ 20 then !isIn (textAt wordsL) s 13 else false
set_option maxHeartbeats 1000000 in
theorem good14 (s : ByteArray) (w : World) (hs : s.size ≤ 1048576) : Calls Try.prog 78 #[.string s] w fun r w' => r = .returned (.bool (goodB s)) ∧ Below w.heap.size w w' := by
  have ha := ahead18 s w hs
  have hg : goodB s = if 0 < s.size ∧ (nameRun s s.size 0 0).1 = s.size ∧ (nameRun s s.size 0 0).2 ≤ 20 then !isIn (textAt wordsL) s 13 else false := rfl
  obtain ⟨A, hA⟩ : ∃ A, (nameRun s s.size 0 0).1 = A := ⟨_, rfl⟩
  obtain ⟨R, hR⟩ : ∃ A, (nameRun s s.size 0 0).2 = A := ⟨_, rfl⟩
  rw [hA, hR] at ha hg
  obtain ⟨G, hG⟩ : ∃ G, goodB s = G := ⟨_, rfl⟩
  rw [hG] at hg ⊢
  have HA : Hid (Calls Try.prog 89 #[.string s] w fun r w' => r = .returned (.tuple #[.int .i64 (A : Nat), .int .i64 (R : Nat)]) ∧ Below w.heap.size w w') := ha
  have HW : Hid (∀ w1, Calls Try.prog 90 #[.string s] w1 fun r w' => r = .returned (.bool (isIn (textAt wordsL) s 13)) ∧ Below w1.heap.size w1 w') := fun w1 => word19 s w1
  have HG : Hid (G = if 0 < s.size ∧ A = s.size ∧ R ≤ 20 then !isIn (textAt wordsL) s 13 else false) := hg
  clear ha hA hR hG hg
  obtain ⟨I, hI⟩ : ∃ I, isIn (textAt wordsL) s 13 = I := ⟨_, rfl⟩
  rw [hI] at HG HW
  clear hI
  by_cases c1 : 0 < A
  · have c1' : (0 : Int) < (A : Int) := by omega
    by_cases c2 : A = s.size
    · have c2' : ((A : Int) == (s.size : Int)) = true := by simp [c2]
      by_cases c3 : R ≤ 20
      · have c3' : (R : Int) ≤ 20 := by omega
        have hg2 : G = !I := by rw [HG.out, if_pos ⟨by omega, c2, c3⟩]
        clear HG c2
        go_enter Try.func78, Try.ntmps78
        go_wp2_with (first | (go_at_call 89; refine (Hid.out HA).mono ?_; rintro e w1 ⟨rfl, B1⟩) | (go_at_call 90; refine ((Hid.out HW) w1).mono ?_; rintro e w2 ⟨rfl, B2⟩))
        go_ret
        exact ⟨by first | rfl | (rw [hg2]; rfl), B1.trans (B2.mono B1.size)⟩
      · have c3' : ¬ (R : Int) ≤ 20 := by omega
        have hg2 : G = false := by rw [HG.out, if_neg (by omega)]
        clear HG c2
        go_enter Try.func78, Try.ntmps78
        go_wp2_with (first | (go_at_call 89; refine (Hid.out HA).mono ?_; rintro e w1 ⟨rfl, B1⟩))
        go_ret
        exact ⟨by first | rfl | (rw [hg2]; rfl), B1⟩
    · have c2' : ((A : Int) == (s.size : Int)) = false := by simp; omega
      have hg2 : G = false := by rw [HG.out, if_neg (by omega)]
      clear HG
      go_enter Try.func78, Try.ntmps78
      go_wp2_with (first | (go_at_call 89; refine (Hid.out HA).mono ?_; rintro e w1 ⟨rfl, B1⟩))
      go_ret
      exact ⟨by first | rfl | (rw [hg2]; rfl), B1⟩
  · have c1' : ¬ (0 : Int) < (A : Int) := by omega
    have hg2 : G = false := by rw [HG.out, if_neg (by omega)]
    clear HG
    go_enter Try.func78, Try.ntmps78
    go_wp2_with (first | (go_at_call 89; refine (Hid.out HA).mono ?_; rintro e w1 ⟨rfl, B1⟩))
    go_ret
    exact ⟨by first | rfl | (rw [hg2]; rfl), B1⟩
set_option maxHeartbeats 1000000 in
theorem good13 (s : ByteArray) (w : World) (hs : s.size ≤ 1048576) : Calls Try.prog 38 #[.string s] w fun r w' => r = .returned (.bool (goodB s)) ∧ Below w.heap.size w w' := by
  have ha := run16 s w hs
  have hg : goodB s = if 0 < s.size ∧ (nameRun s s.size 0 0).1 = s.size ∧ (nameRun s s.size 0 0).2 ≤ 20 then !isIn (textAt wordsL) s 13 else false := rfl
  obtain ⟨A, hA⟩ : ∃ A, (nameRun s s.size 0 0).1 = A := ⟨_, rfl⟩
  obtain ⟨R, hR⟩ : ∃ A, (nameRun s s.size 0 0).2 = A := ⟨_, rfl⟩
  rw [hA, hR] at ha hg
  obtain ⟨G, hG⟩ : ∃ G, goodB s = G := ⟨_, rfl⟩
  rw [hG] at hg ⊢
  have HA : Hid (Calls Try.prog 75 #[.string s, .int .i64 0] w fun r w' => r = .returned (.tuple #[.int .i64 (A : Nat), .int .i64 (R : Nat)]) ∧ w' = w) := ha
  have HW : Hid (∀ (w1 : World) (a : Nat), Own w1 a 13 (fun i => .string (textAt wordsL i)) → Calls Try.prog 76 #[.slice (some ⟨a, 0, none⟩) 13 13, .string s] w1 fun r w' => r = .returned (.bool (isIn (textAt wordsL) s 13)) ∧ w' = w1) := fun w1 a O => in17 13 a 13 (textAt wordsL) s w1 (by omega) O.cell
  have HG : Hid (G = if 0 < s.size ∧ A = s.size ∧ R ≤ 20 then !isIn (textAt wordsL) s 13 else false) := hg
  clear ha hA hR hG hg
  obtain ⟨I, hI⟩ : ∃ I, isIn (textAt wordsL) s 13 = I := ⟨_, rfl⟩
  rw [hI] at HG HW
  clear hI
  by_cases c1 : 0 < s.size
  · have c1' : (0 : Int) < (s.size : Int) := by omega
    by_cases c2 : A = s.size
    · have c2' : ((A : Int) == (s.size : Int)) = true := by simp [c2]
      by_cases c3 : R ≤ 20
      · have c3' : (R : Int) ≤ 20 := by omega
        have hg2 : G = !I := by rw [HG.out, if_pos ⟨by omega, c2, c3⟩]
        clear HG c2
        go_enter Try.func38, Try.ntmps38
        go_wp2_with (first | (go_at_call 75; refine (Hid.out HA).mono ?_; rintro e w1 ⟨rfl, hw⟩; subst w1) | (go_at_call 77; refine (lit6 w).mono ?_; rintro e w1 ⟨rfl, S1, B1⟩) | (go_at_call 76; refine ((Hid.out HW) w1 w.heap.size S1).mono ?_; rintro e w' ⟨rfl, hw⟩; subst w'))
        go_ret
        exact ⟨by first | rfl | (rw [hg2]; rfl), B1⟩
      · have c3' : ¬ (R : Int) ≤ 20 := by omega
        have hg2 : G = false := by rw [HG.out, if_neg (by omega)]
        clear HG c2
        go_enter Try.func38, Try.ntmps38
        go_wp2_with (first | (go_at_call 75; refine (Hid.out HA).mono ?_; rintro e w1 ⟨rfl, hw⟩; subst w1))
        go_ret
        exact ⟨by first | rfl | (rw [hg2]; rfl), Below.refl _ _⟩
    · have c2' : ((A : Int) == (s.size : Int)) = false := by simp; omega
      have hg2 : G = false := by rw [HG.out, if_neg (by omega)]
      clear HG
      go_enter Try.func38, Try.ntmps38
      go_wp2_with (first | (go_at_call 75; refine (Hid.out HA).mono ?_; rintro e w1 ⟨rfl, hw⟩; subst w1))
      go_ret
      exact ⟨by first | rfl | (rw [hg2]; rfl), Below.refl _ _⟩
  · have c1' : ¬ (0 : Int) < (s.size : Int) := by omega
    have hg2 : G = false := by rw [HG.out, if_neg (by omega)]
    clear HG
    go_enter Try.func38, Try.ntmps38
    go_wp2_with (first | (go_at_call 75; refine (Hid.out HA).mono ?_; rintro e w1 ⟨rfl, hw⟩; subst w1))
    go_ret
    exact ⟨by first | rfl | (rw [hg2]; rfl), Below.refl _ _⟩
end Go.Proofs.Yteakeaclpcgopaa.Tk
