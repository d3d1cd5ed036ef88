/- BlocksOf of both sides. -/
import Derived.Test.YtcgapochcahknaaDoorBlk
namespace Go.Proofs.YtcgapochcahknaaDoor
open Go.ChangeShapes Go.WideShapes Go.ChangeAt Go.RowKit
set_option linter.unusedVariables false
/-- How many stretches BlocksOf answers. -/
def Cd.bn (c : Cd) : Nat := if goodC c.O c.D c.A c.B c.C c.X c.n then (c.bS c.n).m else 0
theorem Cd.bn_le (c : Cd) (HX : Wds c.X c.n) : c.bn ≤ 600 := by
  unfold Cd.bn
  split
  · rename_i h
    have h1 := (ok_of h HX).n1
    have h2 := (c.bi c.n).m
    have h1 : c.n ≤ 600 := h1
    omega
  · omega
set_option maxRecDepth 100000 in
set_option maxHeartbeats 2000000 in
theorem mblocksof (n a cap : Nat) (c : Cd) (hc : c.n = n) (w : World) (R : RowI w a n c.O c.D c.A c.B c.C c.X) (HX : Wds c.X n) (hn : n ≤ 1048576) : Calls Tryd.prog 31 #[.slice (some ⟨a, 0, none⟩) n cap] w fun e w' => ∃ u, e = .returned (.tuple #[u, .bool (goodC c.O c.D c.A c.B c.C c.X n)]) ∧ Ans w.heap.size w' u c.bn (Sb.ls (c.bS n)) ∧ Below w.heap.size w w' := by
  subst hc
  have h1 := good9 c.n a cap c.O c.D c.A c.B c.C c.X w R HX hn
  have H2 : Hid (goodC c.O c.D c.A c.B c.C c.X c.n = true → ∀ v, Below w.heap.size w v → Calls Tryd.prog 55 #[.slice (some ⟨a, 0, none⟩) c.n cap] v fun e w' => ∃ u p, e = .returned u ∧ Bm v.heap.size w' u (c.bS c.n) p ∧ Below v.heap.size v w') := fun hg v k => mblocks a cap c (ok_of hg HX) v (R.next k)
  have HN : Hid (c.bn = if goodC c.O c.D c.A c.B c.C c.X c.n then (c.bS c.n).m else 0) := rfl
  generalize goodC c.O c.D c.A c.B c.C c.X c.n = g at h1 H2 HN
  rw [HN.out]
  clear HN R HX hn
  generalize c.bS c.n = s at H2
  generalize c.n = n at h1 H2
  cases g
  · simp only [Bool.false_eq_true, if_false]
    go_enter Tryd.func31, Tryd.ntmps31
    go_wp2_with (go_at_call 33; refine h1.mono ?_; rintro e w1 ⟨rfl, B1⟩)
    go_ret2
    exact ⟨_, rfl, ⟨none, 0, fun _ => 0, fun _ => 0, rfl, ⟨fun x hx => by omega, fun x i hx => by omega, fun x i hx => by omega, fun x y i j hx => by omega, fun x i hx => by omega⟩⟩, B1⟩
  · simp only [if_true]
    have h2 := H2.out rfl
    clear H2
    go_enter Tryd.func31, Tryd.ntmps31
    go_wp2_with (first | (go_at_call 33; refine h1.mono ?_; rintro e w1 ⟨rfl, B1⟩) | (go_at_call 55; refine (h2 _ B1).mono ?_; rintro e w2 ⟨u2, p2, rfl, M2, B2⟩))
    go_ret2
    exact ⟨_, rfl, (M2.lower B1.size).ans, B1.trans (B2.mono B1.size)⟩
set_option maxRecDepth 100000 in
set_option maxHeartbeats 2000000 in
theorem pblocksof (n a cap : Nat) (c : Cd) (hc : c.n = n) (w : World) (G : Forms w) (R : RowI w a n c.O c.D c.A c.B c.C c.X) (HX : Wds c.X n) (hn : n ≤ 1048576) (hcap : n ≤ cap) : Calls Tryd.prog 32 #[.slice (some ⟨a, 0, none⟩) n cap] w fun e w' => ∃ u, e = .returned (.tuple #[u, .bool (goodC c.O c.D c.A c.B c.C c.X n)]) ∧ Ans w.heap.size w' u c.bn (Sb.ls (c.bS n)) ∧ Below w.heap.size w w' := by
  subst hc
  have h1 := good11 c.n a cap c.O c.D c.A c.B c.C c.X w G R HX hn
  have H2 : Hid (goodC c.O c.D c.A c.B c.C c.X c.n = true → ∀ v, Below w.heap.size w v → Calls Tryd.prog 57 #[.slice (some ⟨a, 0, none⟩) c.n cap] v fun e w' => ∃ u p, e = .returned u ∧ Bm v.heap.size w' u (c.bS c.n) p ∧ Below v.heap.size v w') := fun hg v k => pblocks a cap c (ok_of hg HX) v (R.next k) hcap
  have HN : Hid (c.bn = if goodC c.O c.D c.A c.B c.C c.X c.n then (c.bS c.n).m else 0) := rfl
  generalize goodC c.O c.D c.A c.B c.C c.X c.n = g at h1 H2 HN
  rw [HN.out]
  clear HN R HX hn
  generalize c.bS c.n = s at H2
  generalize c.n = n at h1 H2
  cases g
  · simp only [Bool.false_eq_true, if_false]
    go_enter Tryd.func32, Tryd.ntmps32
    go_wp2_with (go_at_call 56; refine h1.mono ?_; rintro e w1 ⟨rfl, B1⟩)
    go_ret2
    exact ⟨_, rfl, ⟨none, 0, fun _ => 0, fun _ => 0, rfl, ⟨fun x hx => by omega, fun x i hx => by omega, fun x i hx => by omega, fun x y i j hx => by omega, fun x i hx => by omega⟩⟩, B1⟩
  · simp only [if_true]
    have h2 := H2.out rfl
    clear H2
    go_enter Tryd.func32, Tryd.ntmps32
    go_wp2_with (first | (go_at_call 56; refine h1.mono ?_; rintro e w1 ⟨rfl, B1⟩) | (go_at_call 57; refine (h2 _ B1).mono ?_; rintro e w2 ⟨u2, p2, rfl, M2, B2⟩))
    go_ret2
    exact ⟨_, rfl, (M2.lower B1.size).ans, B1.trans (B2.mono B1.size)⟩
end Go.Proofs.YtcgapochcahknaaDoor
