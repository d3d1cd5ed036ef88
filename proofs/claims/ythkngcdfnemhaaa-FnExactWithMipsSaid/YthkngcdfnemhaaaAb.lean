/- GoodColor of both sides; colors in bytes, told without a program. -/
import Derived.Test.YthkngcdfnemhaaaAa
import Derived.Lib.BitFns
namespace Go.Proofs.Ythkngcdfnemhaaa
open Go.ChangeShapes Go.WideShapes Go.ChangeAt Go.RowKit
set_option linter.unusedVariables false
set_option maxHeartbeats 2000000 in
theorem good11 (r g b a : Int) (w : World) : Calls Try.prog 11 #[.agg #[.int .i64 r, .int .i64 g, .int .i64 b, .int .i64 a]] w fun e w' => e = .returned (.bool (gdC r g b a)) ∧ Below w.heap.size w w' := by
  by_cases hr0 : 0 ≤ r
  case neg =>
    have hq : gdC r g b a = false := by cases h : gdC r g b a; rfl; have := gdC_iff.1 h; omega
    rw [hq]
    clear hq
    go_enter Try.func11, Try.ntmps11
    go_wp2
    go_ret
    exact ⟨rfl, alloc_b⟩
  by_cases hr1 : r ≤ 255
  case neg =>
    have hq : gdC r g b a = false := by cases h : gdC r g b a; rfl; have := gdC_iff.1 h; omega
    rw [hq]
    clear hq
    go_enter Try.func11, Try.ntmps11
    go_wp2
    go_ret
    exact ⟨rfl, alloc_b⟩
  by_cases hg0 : 0 ≤ g
  case neg =>
    have hq : gdC r g b a = false := by cases h : gdC r g b a; rfl; have := gdC_iff.1 h; omega
    rw [hq]
    clear hq
    go_enter Try.func11, Try.ntmps11
    go_wp2
    go_ret
    exact ⟨rfl, alloc_b⟩
  by_cases hg1 : g ≤ 255
  case neg =>
    have hq : gdC r g b a = false := by cases h : gdC r g b a; rfl; have := gdC_iff.1 h; omega
    rw [hq]
    clear hq
    go_enter Try.func11, Try.ntmps11
    go_wp2
    go_ret
    exact ⟨rfl, alloc_b⟩
  by_cases hb0 : 0 ≤ b
  case neg =>
    have hq : gdC r g b a = false := by cases h : gdC r g b a; rfl; have := gdC_iff.1 h; omega
    rw [hq]
    clear hq
    go_enter Try.func11, Try.ntmps11
    go_wp2
    go_ret
    exact ⟨rfl, alloc_b⟩
  by_cases hb1 : b ≤ 255
  case neg =>
    have hq : gdC r g b a = false := by cases h : gdC r g b a; rfl; have := gdC_iff.1 h; omega
    rw [hq]
    clear hq
    go_enter Try.func11, Try.ntmps11
    go_wp2
    go_ret
    exact ⟨rfl, alloc_b⟩
  by_cases ha0 : 0 ≤ a
  case neg =>
    have hq : gdC r g b a = false := by cases h : gdC r g b a; rfl; have := gdC_iff.1 h; omega
    rw [hq]
    clear hq
    go_enter Try.func11, Try.ntmps11
    go_wp2
    go_ret
    exact ⟨rfl, alloc_b⟩
  by_cases ha1 : a ≤ 255
  case neg =>
    have hq : gdC r g b a = false := by cases h : gdC r g b a; rfl; have := gdC_iff.1 h; omega
    rw [hq]
    clear hq
    go_enter Try.func11, Try.ntmps11
    go_wp2
    go_ret
    exact ⟨rfl, alloc_b⟩
  have hq : gdC r g b a = true := gdC_iff.2 (by omega)
  rw [hq]
  clear hq
  go_enter Try.func11, Try.ntmps11
  go_wp2
  go_ret
  exact ⟨rfl, alloc_b⟩
set_option maxHeartbeats 2000000 in
theorem good13 (r g b a : Int) (w : World) : Calls Try.prog 13 #[.agg #[.int .i64 r, .int .i64 g, .int .i64 b, .int .i64 a]] w fun e w' => e = .returned (.bool (gdC r g b a)) ∧ Below w.heap.size w w' := by
  cases e0 : inB r
  case' true => cases e1 : inB g
  case' true.true => cases e2 : inB b
  case' true.true.true => cases e3 : inB a
  all_goals
    have H0 := Hid.mk e0
    try have H1 := Hid.mk e1
    try have H2 := Hid.mk e2
    try have H3 := Hid.mk e3
    have hq : gdC r g b a = (inB r && (inB g && (inB b && inB a))) := rfl
    rw [hq, e0]
    try rw [e1]
    try rw [e2]
    try rw [e3]
    have hpt : ∀ (x : Int) (w' : World), Calls Try.prog 42 #[.int .i64 x] w' fun e w'' => e = .returned (.bool (inB x)) ∧ w'' = w' := fun x w' => part42 x w'
    clear hq e0
    try clear e1
    try clear e2
    try clear e3
    simp only [Bool.and_true, Bool.and_false, Bool.false_and]
    go_enter Try.func13, Try.ntmps13
    go_wp2_with (go_at_call 42; refine (hpt _ _).mono ?_; rintro e w2 ⟨rfl, hw⟩; subst w2; (first | rw [H3.out] | skip); (first | rw [H2.out] | skip); (first | rw [H1.out] | skip); (first | rw [H0.out] | skip))
    go_ret
    exact ⟨rfl, alloc_b⟩
/-- The number of a short color. -/
def shN (r g b : Int) : Int := (r * 31 + 127) / 255 * 2048 + (g * 63 + 127) / 255 * 32 + (b * 31 + 127) / 255
def pk (f r g b a : Int) : List Int := if f = 1 then [r] else if f = 2 then [r, g, b, a] else if f = 3 then [shN r g b % 256, shN r g b / 256] else []
/-- What PackColor answers. -/
def pkC (f r g b a : Int) : List Int := if gdC r g b a then pk f r g b a else []
def fmV (f : Int) : Value := if f = 1 then .iface 98 (.agg #[]) else if f = 2 then .iface 99 (.agg #[]) else if f = 3 then .iface 100 (.agg #[]) else .nilIface
def fmB (f : Int) : Bool := decide (f = 1) || (decide (f = 2) || decide (f = 3))
def szF (f : Int) : Nat := if f = 1 then 1 else if f = 2 then 4 else if f = 3 then 2 else 0
def un (x : Nat → Int) : Int := x 0 + 256 * x 1
def u0 (f : Int) (x : Nat → Int) : Int := if f = 1 then x 0 else if f = 2 then x 0 else (un x / 2048 * 255 + 15) / 31
def u1 (f : Int) (x : Nat → Int) : Int := if f = 1 then x 0 else if f = 2 then x 1 else (un x / 32 % 64 * 255 + 31) / 63
def u2 (f : Int) (x : Nat → Int) : Int := if f = 1 then x 0 else if f = 2 then x 2 else (un x % 32 * 255 + 15) / 31
def u3 (f : Int) (x : Nat → Int) : Int := if f = 2 then x 3 else 255
/-- A row of bytes of its own, in a block from B on. -/
def BOwn (B : Nat) (w : World) (v : Value) (L : List Int) : Prop := (L = [] ∧ v = .slice none 0 0) ∨ ∃ g, v = .slice (some ⟨g, 0, none⟩) L.length L.length ∧ B ≤ g ∧ Own w g L.length (fun i => .int .u8 (L.getD i 0))
theorem BOwn.next {B : Nat} {w w' : World} {v : Value} {L : List Int} (h : BOwn B w v L) (b : Below w.heap.size w w') : BOwn B w' v L := by
  rcases h with h | ⟨g, h1, h2, h3⟩
  · exact Or.inl h
  · exact Or.inr ⟨g, h1, h2, h3.next b⟩
theorem BOwn.low {B C : Nat} {w : World} {v : Value} {L : List Int} (h : BOwn B w v L) (hC : C ≤ B) : BOwn C w v L := by
  rcases h with h | ⟨g, h1, h2, h3⟩
  · exact Or.inl h
  · exact Or.inr ⟨g, h1, by omega, h3⟩
theorem bown_new {w : World} {t : TypeId} (L : List Int) : BOwn w.heap.size (w.alloc (.cells (L.map (fun x => Value.int .u8 x)).toArray t)) (.slice (some ⟨w.heap.size, 0, none⟩) L.length L.length) L :=
  Or.inr ⟨_, rfl, Nat.le_refl _, ⟨fun i hi => by simp [List.getD, hi], fun i => by simp, by simp⟩⟩
set_option maxHeartbeats 2000000 in
theorem resc114 (p f t : Int) (w : World) (p0 : 0 ≤ p) (p1 : p ≤ 65535) (hft : (f = 255 ∧ t = 31) ∨ (f = 255 ∧ t = 63) ∨ (f = 31 ∧ t = 255) ∨ (f = 63 ∧ t = 255)) : Calls Try.prog 115 #[.int .i64 p, .int .i64 f, .int .i64 t] w fun e w' => e = .returned (.int .i64 ((p * t + f / 2) / f)) ∧ w' = w := by
  rcases hft with ⟨rfl, rfl⟩ | ⟨rfl, rfl⟩ | ⟨rfl, rfl⟩ | ⟨rfl, rfl⟩
  · have hd : (p * 31 + 127).tdiv 255 = (p * 31 + 127) / 255 := Int.tdiv_eq_ediv_of_nonneg (by omega)
    go_enter Try.func115, Try.ntmps115
    go_wp2
    go_ret
    exact ⟨rfl, rfl⟩
  · have hd : (p * 63 + 127).tdiv 255 = (p * 63 + 127) / 255 := Int.tdiv_eq_ediv_of_nonneg (by omega)
    go_enter Try.func115, Try.ntmps115
    go_wp2
    go_ret
    exact ⟨rfl, rfl⟩
  · have hd : (p * 255 + 15).tdiv 31 = (p * 255 + 15) / 31 := Int.tdiv_eq_ediv_of_nonneg (by omega)
    go_enter Try.func115, Try.ntmps115
    go_wp2
    go_ret
    exact ⟨rfl, rfl⟩
  · have hd : (p * 255 + 31).tdiv 63 = (p * 255 + 31) / 63 := Int.tdiv_eq_ediv_of_nonneg (by omega)
    go_enter Try.func115, Try.ntmps115
    go_wp2
    go_ret
    exact ⟨rfl, rfl⟩
theorem b3 {w : World} {o1 o2 o3 : Obj} : Below w.heap.size w (((w.alloc o1).alloc o2).alloc o3) := (((Below.refl _ _).alloc (Nat.le_refl _) _).alloc (by simp) _).alloc (by rw [World.size_alloc, World.size_alloc]; omega) _
theorem b2 {w : World} {o1 o2 : Obj} : Below w.heap.size w ((w.alloc o1).alloc o2) := ((Below.refl _ _).alloc (Nat.le_refl _) _).alloc (by simp) _
/-- What a call that packs leaves. -/
def Pkd (w : World) (L : List Int) (e : Ending) (w' : World) : Prop := ∃ v, e = .returned v ∧ BOwn w.heap.size w' v L ∧ Below w.heap.size w w'
theorem pkd_new (w v : World) (t : TypeId) (b : Below w.heap.size w v) (L : List Int) (z : Value) (hz : z = .slice (some ⟨v.heap.size, 0, none⟩) L.length L.length) (o : Obj) (ho : o = .cells (L.map (fun x => Value.int .u8 x)).toArray t) : Pkd w L (.returned z) (v.alloc o) := by
  subst hz; subst ho
  exact ⟨_, rfl, (bown_new L).low b.size, b.alloc b.size _⟩
set_option maxHeartbeats 2000000 in
theorem grey104 (r g b a : Int) (w : World) (h : gdC r g b a = true) : Calls Try.prog 105 #[.agg #[], .agg #[.int .i64 r, .int .i64 g, .int .i64 b, .int .i64 a]] w (Pkd w (pk 1 r g b a)) := by
  have hg := gdC_iff.1 h
  go_enter Try.func105, Try.ntmps105
  go_wp2
  go_ret
  exact pkd_new w _ 5 b2 [r] _ (by simp) _ rfl
set_option maxHeartbeats 2000000 in
theorem full108 (r g b a : Int) (w : World) (h : gdC r g b a = true) : Calls Try.prog 109 #[.agg #[], .agg #[.int .i64 r, .int .i64 g, .int .i64 b, .int .i64 a]] w (Pkd w (pk 2 r g b a)) := by
  have hg := gdC_iff.1 h
  go_enter Try.func109, Try.ntmps109
  go_wp2
  go_ret
  exact pkd_new w _ 5 b2 [r, g, b, a] _ (by simp) _ rfl
set_option maxHeartbeats 2000000 in
theorem short111 (r g b a : Int) (w : World) (h : gdC r g b a = true) : Calls Try.prog 112 #[.agg #[], .agg #[.int .i64 r, .int .i64 g, .int .i64 b, .int .i64 a]] w (Pkd w (pk 3 r g b a)) := by
  obtain ⟨⟨r0, r1⟩, ⟨g0, g1⟩, ⟨b0, b1⟩, _⟩ := gdC_iff.1 h
  clear h
  have HR : Hid (∀ w : World, Calls Try.prog 115 #[.int .i64 r, .int .i64 255, .int .i64 31] w fun e w' => e = .returned (.int .i64 ((r * 31 + 127) / 255)) ∧ w' = w) := fun w => resc114 r 255 31 w r0 (by omega) (Or.inl ⟨rfl, rfl⟩)
  have HG : Hid (∀ w : World, Calls Try.prog 115 #[.int .i64 g, .int .i64 255, .int .i64 63] w fun e w' => e = .returned (.int .i64 ((g * 63 + 127) / 255)) ∧ w' = w) := fun w => resc114 g 255 63 w g0 (by omega) (Or.inr (Or.inl ⟨rfl, rfl⟩))
  have HB : Hid (∀ w : World, Calls Try.prog 115 #[.int .i64 b, .int .i64 255, .int .i64 31] w fun e w' => e = .returned (.int .i64 ((b * 31 + 127) / 255)) ∧ w' = w) := fun w => resc114 b 255 31 w b0 (by omega) (Or.inl ⟨rfl, rfl⟩)
  obtain ⟨X, hX⟩ : ∃ X, (r * 31 + 127) / 255 = X := ⟨_, rfl⟩
  obtain ⟨Y, hY⟩ : ∃ X, (g * 63 + 127) / 255 = X := ⟨_, rfl⟩
  obtain ⟨Z, hZ⟩ : ∃ X, (b * 31 + 127) / 255 = X := ⟨_, rfl⟩
  have hs : shN r g b = 2048 * X + 32 * Y + Z := by unfold shN; rw [hX, hY, hZ]; omega
  rw [hX] at HR; rw [hY] at HG; rw [hZ] at HB
  have hX0 : 0 ≤ X := by omega
  have hX1 : X ≤ 31 := by omega
  have hY0 : 0 ≤ Y := by omega
  have hY1 : Y ≤ 63 := by omega
  have hZ0 : 0 ≤ Z := by omega
  have hZ1 : Z ≤ 31 := by omega
  have hp : pk 3 r g b a = [shN r g b % 256, shN r g b / 256] := by unfold pk; rw [if_neg (by decide), if_neg (by decide), if_pos rfl]
  rw [hp, hs]
  clear hX hY hZ hs hp r0 r1 g0 g1 b0 b1
  go_enter Try.func112, Try.ntmps112
  go_wp2_with (first | (go_at_call 115; (with_reducible show Calls Try.prog 115 #[.int .i64 r, .int .i64 255, .int .i64 31] _ _); refine (HR.out _).mono ?_; rintro e w2 ⟨rfl, hw⟩; subst w2) | (go_at_call 115; (with_reducible show Calls Try.prog 115 #[.int .i64 g, .int .i64 255, .int .i64 63] _ _); refine (HG.out _).mono ?_; rintro e w2 ⟨rfl, hw⟩; subst w2) | (go_at_call 115; (with_reducible show Calls Try.prog 115 #[.int .i64 b, .int .i64 255, .int .i64 31] _ _); refine (HB.out _).mono ?_; rintro e w2 ⟨rfl, hw⟩; subst w2))
  go_ret
  exact pkd_new w _ 5 b2 [_, _] _ (by simp) _ rfl
set_option maxHeartbeats 2000000 in
theorem fmt43 (f : Int) (w : World) : Calls Try.prog 43 #[.int .i64 f] w fun e w' => e = .returned (.tuple #[fmV f, .bool (fmB f)]) ∧ w' = w := by
  by_cases h1 : f = 1
  · subst h1
    go_enter Try.func43, Try.ntmps43
    go_wp2
    go_ret2
    exact ⟨rfl, rfl⟩
  by_cases h2 : f = 2
  · subst h2
    go_enter Try.func43, Try.ntmps43
    go_wp2
    go_ret2
    exact ⟨rfl, rfl⟩
  by_cases h3 : f = 3
  · subst h3
    go_enter Try.func43, Try.ntmps43
    go_wp2
    go_ret2
    exact ⟨rfl, rfl⟩
  have hv : fmV f = .nilIface := by unfold fmV; rw [if_neg h1, if_neg h2, if_neg h3]
  have hb : fmB f = false := by unfold fmB; rw [decide_eq_false h1, decide_eq_false h2, decide_eq_false h3]; rfl
  rw [hv, hb]
  clear hv hb
  go_enter Try.func43, Try.ntmps43
  go_wp2
  go_ret2
  exact ⟨rfl, rfl⟩
end Go.Proofs.Ythkngcdfnemhaaa
