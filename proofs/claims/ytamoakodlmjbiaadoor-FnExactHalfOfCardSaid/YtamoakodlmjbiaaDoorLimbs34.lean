/- What the model's rounding holds in its own memory while it works: the form, the numerator, the denominator, by what they stand for. -/
import Derived.Test.YtamoakodlmjbiaaDoorLimbs33
import Derived.Test.YtamoakodlmjbiaaDoorRnd16
import Derived.Test.YtamoakodlmjbiaaDoorWhole
namespace Go.Proofs.YtamoakodlmjbiaaDoor
open Go.ChangeShapes Go.WideShapes Go.ChangeAt Go.RowKit
/-- How what is left over lies to half of the step. -/
def leftI (r b : Nat) : Int := if r = 0 then 0 else if 2 * r < b then 1 else if 2 * r = b then 2 else 3
structure RC (fb fl fm : Int) (w v : World) (a N D : Nat) (V1 : Int) (g1 : Bool) (p1 : Option Addr) (l1 c1 : Nat) (V2 : Int) (g2 : Bool) (p2 : Option Addr) (l2 c2 : Nat) : Prop where
  F : v.heap[w.heap.size + 1]? = some (.cells #[.int .i64 fb, .int .i64 fl, .int .i64 fm] 62 (0, 0))
  Nm : Three v a (.int .i64 V1) (.bool g1) (.slice p1 l1 c1)
  Dn : Three v (a + 1) (.int .i64 V2) (.bool g2) (.slice p2 l2 c2)
  nN : Num v 60 (.agg #[.int .i64 V1, .bool g1, .slice p1 l1 c1]) (N : Int)
  nD : Num v 60 (.agg #[.int .i64 V2, .bool g2, .slice p2 l2 c2]) (D : Int)
  B : Below w.heap.size w v
  lo : w.heap.size + 1 < a
section
variable {fb fl fm : Int} {w v v' : World} {a N D N' D' : Nat} {V1 : Int} {g1 : Bool} {p1 : Option Addr} {l1 c1 : Nat} {V2 : Int} {g2 : Bool} {p2 : Option Addr} {l2 c2 : Nat} {V3 : Int} {g3 : Bool} {p3 : Option Addr} {l3 c3 : Nat}
theorem RC.sz (h : RC fb fl fm w v a N D V1 g1 p1 l1 c1 V2 g2 p2 l2 c2) : a + 1 < v.heap.size := lt_of_block h.Dn
theorem RC.next (h : RC fb fl fm w v a N D V1 g1 p1 l1 c1 V2 g2 p2 l2 c2) (b : Below v.heap.size v v') : RC fb fl fm w v' a N D V1 g1 p1 l1 c1 V2 g2 p2 l2 c2 := by
  have s := h.sz
  have l := h.lo
  exact ⟨(b.block _ (by omega)).trans h.F, h.Nm.next b, h.Dn.next b, h.nN.next b, h.nD.next b, h.B.trans (b.mono (by omega)), l⟩
theorem RC.drew (h : RC fb fl fm w v a N D V1 g1 p1 l1 c1 V2 g2 p2 l2 c2) : RC fb fl fm w v.drew a N D V1 g1 p1 l1 c1 V2 g2 p2 l2 c2 := ⟨h.F, h.Nm, h.Dn, h.nN.drew, h.nD.drew, h.B.drew, h.lo⟩
theorem RC.alloc (h : RC fb fl fm w v a N D V1 g1 p1 l1 c1 V2 g2 p2 l2 c2) (o : Obj) : RC fb fl fm w (v.alloc o) a N D V1 g1 p1 l1 c1 V2 g2 p2 l2 c2 := h.next (al _ _)
theorem RC.setN (h : RC fb fl fm w v a N D V1 g1 p1 l1 c1 V2 g2 p2 l2 c2) (hn : Num v 60 (.agg #[.int .i64 V3, .bool g3, .slice p3 l3 c3]) (N' : Int)) :
    RC fb fl fm w (((v.setCell ⟨a, 0, none⟩ (.int .i64 V3)).setCell ⟨a, 1, none⟩ (.bool g3)).setCell ⟨a, 2, none⟩ (.slice p3 l3 c3)) a N' D V3 g3 p3 l3 c3 V2 g2 p2 l2 c2 := by
  have l := h.lo
  exact ⟨(set3_ne (by omega)).trans h.F, h.Nm.set _ _ _, h.Dn.other (by omega) _ _ _, hn.set3 h.Nm _ _ _, h.nD.set3 h.Nm _ _ _, below_set3 h.B (by omega) _ _ _, l⟩
theorem RC.setD (h : RC fb fl fm w v a N D V1 g1 p1 l1 c1 V2 g2 p2 l2 c2) (hn : Num v 60 (.agg #[.int .i64 V3, .bool g3, .slice p3 l3 c3]) (D' : Int)) :
    RC fb fl fm w (((v.setCell ⟨a + 1, 0, none⟩ (.int .i64 V3)).setCell ⟨a + 1, 1, none⟩ (.bool g3)).setCell ⟨a + 1, 2, none⟩ (.slice p3 l3 c3)) a N D' V1 g1 p1 l1 c1 V3 g3 p3 l3 c3 := by
  have l := h.lo
  exact ⟨(set3_ne (by omega)).trans h.F, h.Nm.other (by omega) _ _ _, h.Dn.set _ _ _, h.nN.set3 h.Dn _ _ _, hn.set3 h.Dn _ _ _, below_set3 h.B (by omega) _ _ _, l⟩
end
end Go.Proofs.YtamoakodlmjbiaaDoor
