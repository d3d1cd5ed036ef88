/- Both sides' ReadTokens answer alike at every text of at most 2^20 bytes; the memory that the law goes through. -/
import Derived.Test.YtpildklndfgojaaDoorTokQ
import Derived.Test.YtpildklndfgojaaDoorTokW
namespace Go.Proofs.YtpildklndfgojaaDoor.Tk
open Go.ChangeShapes Go.WideShapes Go.ChangeAt Go.RowKit
set_option linter.unusedVariables false
theorem scan_few (s : ByteArray) : ∀ (f i : Nat) (tl : List Tok), tl.length ≤ 400 → (scan s f i tl).1.length ≤ 400
  | 0, i, tl, h => h
  | f + 1, i, tl, h => by
    by_cases c : i < s.size
    · by_cases k : skipN s i = 0
      · by_cases z : tC (s.extract i s.size) = 0
        · by_cases q : tl.length = 400
          · rw [scan_many c k z q]; exact Nat.zero_le _
          · rw [scan_tok c k z q]
            exact scan_few s f _ _ (by rw [List.length_append]; show tl.length + 1 ≤ 400; omega)
        · rw [scan_bad c k z]; exact Nat.zero_le _
      · rw [scan_skip c rfl k]
        exact scan_few s f _ _ h
    · rw [scan_end c]; exact h
set_option maxHeartbeats 1000000 in
set_option maxRecDepth 100000 in
theorem long18 (s : ByteArray) (w : World) (hs : 2000 < s.size) (hs2 : s.size ≤ 1048576) : Calls Tryd.prog 18 #[.string s] w fun e w' => e = .returned (.agg #[.slice none 0 0, .int .i64 1, .int .i64 0]) ∧ Below w.heap.size w w' := by
  have h1 : (2000 : Int) < (s.size : Int) := by omega
  go_enter Tryd.func18, Tryd.ntmps18
  go_wp2
  exact bodyPost_ret (v := .agg #[.slice none 0 0, .int .i64 1, .int .i64 0]) (by simp [results, Tryd.results18, go_sem]) rfl ⟨rfl, by repeat (first | (with_reducible refine Below.setCell ?_ (by first | omega | (simp; try omega)) _) | (with_reducible refine Below.alloc ?_ (by first | omega | (simp; try omega)) _) | (with_reducible exact Below.refl _ _))⟩
set_option maxHeartbeats 4000000 in
set_option maxRecDepth 100000 in
theorem long19 (s : ByteArray) (w : World) (hs : 2000 < s.size) (hs2 : s.size ≤ 1048576) : Calls Tryd.prog 19 #[.string s] w fun e w' => e = .returned (.agg #[.slice none 0 0, .int .i64 1, .int .i64 0]) ∧ Below w.heap.size w w' := by
  have h1 : (2000 : Int) < (s.size : Int) := by omega
  go_enter Tryd.func19, Tryd.ntmps19
  go_wp2
  refine scope_labels (fun l a wr => l = 0 ∧ ∃ v, fr19 s w.heap.size v 0 0 0 1 a ∧ Mem19 w v [] wr) (fun _ _ _ => 0) ?_ ?_ ?_
  · rintro l a wr ⟨rfl, _⟩
    rfl
  · have M := Mem19.start w
    have HM : Hid (Mem19 w (.slice none 0 0) [] (w.alloc (.cells #[.slice none 0 0, .int .i64 0, .int .i64 0] 36))) := M
    clear M
    go_wp2
    go_step3
    exact ⟨rfl, _, ⟨_, _, _, _, _, _, _, _, _, _, _, _, _, _, _, _, _, _, _, _, _, _, _, _, _, _, _, _, _, _, _, _, _, _, _, _, _, _, _, _, _, _, _, _, _, _, _, _, _, _, _, _, _, _, _, _, _, _, _, _, _, _, _, _, _, _, _, _, _, _, _, _, _, _, _, _, _, _, _, _, _, _, _, rfl⟩, HM.out⟩
  · rintro l a wr ⟨rfl, v, hfr, M⟩
    unfold fr19 at hfr
    obtain ⟨u8, u9, u10, u11, u12, u13, u14, u15, u16, u17, u18, u19, u20, u21, u22, u23, u24, u25, u26, u27, u28, u29, u30, u31, u32, u33, u34, u35, u36, u37, u38, u39, u40, u41, u42, u43, u44, u45, u46, u47, u48, u49, u50, u51, u52, u53, u54, u55, u56, u57, u58, u59, u60, u61, u62, u63, u64, u65, u66, u67, u68, u69, u70, u71, u72, u73, u74, u75, u76, u77, u78, u79, u80, u81, u82, u83, u84, u85, u86, u87, u88, u89, u90, rfl⟩ := hfr
    have HM : Hid (Mem19 w v [] wr) := M
    obtain ⟨c0, c1, c2⟩ := M.cells
    have f00 := M.free 0
    have f01 := M.free 1
    have f02 := M.free 2
    clear M
    simp only [behind, findLabel, Option.getD]
    go_wp2
    rw [jumps_ret]
    have B1 := HM.out.below
    exact bodyPost_ret (v := .agg #[.slice none 0 0, .int .i64 1, .int .i64 0]) (by simp [results, Tryd.results19, go_sem, c0, c1, c2]) rfl ⟨rfl, by repeat (first | (with_reducible refine Below.setCell ?_ (by first | omega | (simp; try omega)) _) | (with_reducible exact B1))⟩
/-- What a call of either side answers. -/
def Says (w : World) (n : Nat) (K : Nat → Int) (T : Nat → ByteArray) (J : Nat → Int) (cd a : Int) (e : Ending) (w' : World) : Prop :=
  ∃ v, e = .returned (.agg #[v, .int .i64 cd, .int .i64 a]) ∧ RowV w' v n K T J ∧ (∀ g, v.ownBlock = some g → w.heap.size ≤ g) ∧ Below w.heap.size w w'
theorem read_both (s : ByteArray) (hs : s.size ≤ 1048576) : ∃ (n : Nat) (K : Nat → Int) (T : Nat → ByteArray) (J : Nat → Int) (cd a : Int), n ≤ 400 ∧
    (∀ w : World, Calls Tryd.prog 18 #[.string s] w (Says w n K T J cd a)) ∧ (∀ w : World, Lb w → Calls Tryd.prog 19 #[.string s] w (Says w n K T J cd a)) := by
  by_cases h : s.size ≤ 2000
  · obtain ⟨R, hR⟩ : ∃ R, scan s (s.size + 1) 0 [] = R := ⟨_, rfl⟩
    exact ⟨R.1.length, tkK R.1, tkT R.1, tkJ R.1, R.2.1, (R.2.2 : Nat), by rw [← hR]; exact scan_few s _ _ _ (by decide), fun w => read18 s w h R hR, fun w L => read19 s w h L R hR⟩
  · refine ⟨0, fun _ => 0, fun _ => ⟨#[]⟩, fun _ => 0, 1, 0, by decide, fun w => (long18 s w (by omega) hs).mono fun e w' h => ?_, fun w _ => (long19 s w (by omega) hs).mono fun e w' h => ?_⟩
    · exact ⟨_, h.1, Or.inl ⟨rfl, rfl⟩, fun g hg => by simp [Value.ownBlock] at hg, h.2⟩
    · exact ⟨_, h.1, Or.inl ⟨rfl, rfl⟩, fun g hg => by simp [Value.ownBlock] at hg, h.2⟩
/-- The law's memory: what was wanted, what was got, and their rows. -/
structure S5 (w : World) (o3 o4 : Nat) (u v : Value) (cd a : Int) (n : Nat) (K : Nat → Int) (T : Nat → ByteArray) (J : Nat → Int) (K' : Nat → Int) (T' : Nat → ByteArray) (J' : Nat → Int) (wx : World) : Prop where
  b3 : wx.heap[o3]? = some (.cells #[u, .int .i64 cd, .int .i64 a] 36 (0, 0))
  b4 : wx.heap[o4]? = some (.cells #[v, .int .i64 cd, .int .i64 a] 36 (0, 0))
  U : RowV wx u n K T J
  V : RowV wx v n K' T' J'
  below : Below w.heap.size w wx
  sep : ∀ g, v.ownBlock = some g → g ≠ o3 ∧ g ≠ o4 ∧ u.ownBlock ≠ some g ∧ w.heap.size ≤ g
theorem S5.next {w wx w2 : World} {o3 o4 : Nat} {u v : Value} {cd a : Int} {n : Nat} {K J K' J' : Nat → Int} {T T' : Nat → ByteArray} (h : S5 w o3 o4 u v cd a n K T J K' T' J' wx) (b : Below wx.heap.size wx w2) : S5 w o3 o4 u v cd a n K T J K' T' J' w2 :=
  ⟨by rw [b.block _ (Array.getElem?_eq_some_iff.1 h.b3).1]; exact h.b3, by rw [b.block _ (Array.getElem?_eq_some_iff.1 h.b4).1]; exact h.b4, h.U.next b, h.V.next b, h.below.trans (b.mono h.below.size), h.sep⟩
theorem S5.mark {w wx w2 : World} {o3 o4 : Nat} {u v : Value} {cd a : Int} {n : Nat} {K J K' J' K2 J2 : Nat → Int} {T T' T2 : Nat → ByteArray} (h : S5 w o3 o4 u v cd a n K T J K' T' J' wx) (V : RowV w2 v n K2 T2 J2) (g : wx.grownBy w2 v.ownBlock) : S5 w o3 o4 u v cd a n K T J K2 T2 J2 w2 :=
  ⟨by rw [g.block _ (Array.getElem?_eq_some_iff.1 h.b3).1 (fun e => (h.sep _ e.symm).1 rfl)]; exact h.b3, by rw [g.block _ (Array.getElem?_eq_some_iff.1 h.b4).1 (fun e => (h.sep _ e.symm).2.1 rfl)]; exact h.b4,
    h.U.grown g (by
      cases hu : u.ownBlock with
      | none => exact Or.inl rfl
      | some k => exact Or.inr (fun e => (h.sep k e.symm).2.2.1 hu)), V, h.below.grown g h.below.size (fun q hq => (h.sep q hq).2.2.2), h.sep⟩
theorem S5.cells {w wx : World} {o3 o4 : Nat} {u v : Value} {cd a : Int} {n : Nat} {K J K' J' : Nat → Int} {T T' : Nat → ByteArray} (h : S5 w o3 o4 u v cd a n K T J K' T' J' wx) : wx.cell? ⟨o3, 0, none⟩ = some u ∧ wx.cell? ⟨o3, 1, none⟩ = some (.int .i64 cd) ∧ wx.cell? ⟨o3, 2, none⟩ = some (.int .i64 a) ∧ wx.cell? ⟨o4, 0, none⟩ = some v ∧ wx.cell? ⟨o4, 1, none⟩ = some (.int .i64 cd) ∧ wx.cell? ⟨o4, 2, none⟩ = some (.int .i64 a) :=
  ⟨by rw [Lib.cell_of_heap h.b3]; rfl, by rw [Lib.cell_of_heap h.b3]; rfl, by rw [Lib.cell_of_heap h.b3]; rfl, by rw [Lib.cell_of_heap h.b4]; rfl, by rw [Lib.cell_of_heap h.b4]; rfl, by rw [Lib.cell_of_heap h.b4]; rfl⟩
theorem RowV.lt {w : World} {v : Value} {n : Nat} {K J : Nat → Int} {T : Nat → ByteArray} (h : RowV w v n K T J) : ∀ g, v.ownBlock = some g → g < w.heap.size := by
  rcases h with ⟨_, rfl⟩ | ⟨o, c, rfl, R⟩
  · intro g hg; simp [Value.ownBlock] at hg
  · intro g hg; simp [Value.ownBlock] at hg; subst hg; exact R.hi
theorem S5.start {w w1 w2 : World} {u v : Value} {cd a : Int} {n : Nat} {K J : Nat → Int} {T : Nat → ByteArray} (U : RowV w1 u n K T J) (B1 : Below w.heap.size w w1) (V : RowV w2 v n K T J)
    (gv : ∀ g, v.ownBlock = some g → w1.heap.size + 1 ≤ g) (B2 : Below (w1.heap.size + 1) (w1.alloc (.cells #[u, .int .i64 cd, .int .i64 a] 36)) w2) :
    S5 w w1.heap.size w2.heap.size u v cd a n K T J K T J (w2.alloc (.cells #[v, .int .i64 cd, .int .i64 a] 36)) := by
  have z2 : w1.heap.size + 1 ≤ w2.heap.size := by have := B2.size; simpa using this
  have b3 : w2.heap[w1.heap.size]? = some (.cells #[u, .int .i64 cd, .int .i64 a] 36 (0, 0)) := by
    rw [B2.block _ (by omega)]; exact heap_alloc_new w1 _
  have Bx : Below w1.heap.size w1 w2 := (alloc_b (w := w1)).trans (B2.mono (by omega))
  have U2 := U.next Bx
  refine ⟨by rw [heap_alloc_old _ _ (by omega)]; exact b3, heap_alloc_new w2 _, U2.next alloc_b, V.next alloc_b, (B1.trans (Bx.mono B1.size)).trans (alloc_b.mono (by have := B1.size; omega)), fun g hg => ?_⟩
  have l1 := gv g hg
  have l2 := V.lt g hg
  exact ⟨by omega, by omega, fun e => by have := U.lt g e; omega, by have := B1.size; omega⟩
end Go.Proofs.YtpildklndfgojaaDoor.Tk
