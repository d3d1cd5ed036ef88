/- The model's l13Live. -/
import Derived.Test.YtmeokhppaekhpaaGreatDoorLvn
import Derived.Test.YtmeokhppaekhpaaGreatDoorWrm
import Derived.Test.YtmeokhppaekhpaaGreatDoorRdt
import Derived.Deep.LoopGhost
namespace Go.Proofs.YtmeokhppaekhpaaGreatDoor
open Go.ChangeShapes Go.WideShapes Go.ChangeAt Go.RowKit
set_option linter.unusedVariables false
theorem info53 : (Tryz.prog.info? 47).map (fun i => (i.zero, i.size, i.bytes)) = some (some (.slice none 0 0), 1, 24) := by kernel_rfl
/-- What is asked of the code. -/
structure LvOk (c : Cd) (R : Nat) : Prop where
  n0 : 1 ≤ c.n
  n1 : c.n ≤ 600
  r1 : R ≤ 400
  ops : ∀ k, k < c.n → 1 ≤ c.O k ∧ c.O k ≤ 13
  h4 : ∀ k, k < c.n → c.O k = 4 → 1 ≤ ar (calW (c.X k))
  hx : ∀ k, k < c.n → 0 ≤ c.X k ∧ c.X k < 4294967296
  tg : ∀ k, k < c.n → ∀ t, t ∈ tgL (c.O k) (c.A k) (c.B k) (c.C k) → 0 ≤ t ∧ t < c.n
  rd : ∀ k, k < c.n → ∀ r, r ∈ opsL (c.O k) (c.A k) (c.B k) (c.C k) (c.X k) → 0 ≤ r ∧ r < R
  wr : ∀ k, k < c.n → nmd (c.O k) 0 = true → 0 ≤ c.D k
set_option maxRecDepth 100000 in
set_option maxHeartbeats 16000000 in
theorem live35 (n a cap R : Nat) (c : Cd) (K : LvOk c R) (w : World) (hn : c.n = n) (RI : RowI w a n c.O c.D c.A c.B c.C c.X) (h62 : Calls Tryz.prog 48 #[.slice (some ⟨a, 0, none⟩) n cap] w fun e w' => e = .returned (.int .i64 (R : Int)) ∧ Below w.heap.size w w') : Calls Tryz.prog 49 #[.slice (some ⟨a, 0, none⟩) n cap] w fun e w' => ∃ qb p0 pb, e = .returned (.tuple #[.slice (some ⟨qb, 0, none⟩) n n, .slice (some ⟨p0, 0, none⟩) R R]) ∧ Gr2 w' qb n R pb (lbB c) ∧ Own w' p0 R (fun r => .bool (laB c 0 r)) ∧ (w.heap.size ≤ qb ∧ w.heap.size ≤ p0 ∧ ∀ k, k < n → w.heap.size ≤ pb k) ∧ Below w.heap.size w w' := by
  obtain ⟨i4, hi4, hz40, hz41, hz42⟩ := info_parts info4
  obtain ⟨i53, hi53, hz530, hz531, hz532⟩ := info_parts info53
  have n0 : 1 ≤ n := by rw [← hn]; exact K.n0
  have n1 : n ≤ 600 := by rw [← hn]; exact K.n1
  have r1 := K.r1
  have HR : Hid (RowI w a n c.O c.D c.A c.B c.C c.X) := RI
  have HK : Hid (LvOk c R) := K
  have HN : Hid (c.n = n) := hn
  clear RI K hn
  go_enter Tryz.func49, Tryz.ntmps49
  go_wp2_with (first | (go_at_call 48; refine h62.mono ?_; rintro e w1 ⟨rfl, B1⟩) | (at_make; refine wpList_make_full _ rfl _ _ 45 rfl w1.heap.size 47 i53 (.slice none 0 0) 1 Tryz.underlying45 hi53 hz530 hz531 .i64 .i64 _ _ n rfl rfl rfl rfl ?b2 ?b3 ?b4 ?_))
  case b2 => rw [hz532]; omega
  case b3 => unfold maxLen; omega
  case b4 => exact Nat.le_refl _
  intro w2 hown hgrow
  have A2 : Own w2 w1.heap.size n (fun _ => .slice none 0 0) := own_made (by rw [Nat.mul_one]; exact hown)
  have B2 : Below w1.heap.size w1 w2 := ⟨hgrow.os, hgrow.tape, hgrow.output, hgrow.size, fun k hk => hgrow.block k hk (by simp)⟩
  clear hown hgrow
  go_wp2_with (at_make; refine wpList_make_full _ rfl _ _ 45 rfl w2.heap.size 47 i53 (.slice none 0 0) 1 Tryz.underlying45 hi53 hz530 hz531 .i64 .i64 _ _ n rfl rfl rfl rfl ?b2 ?b3 ?b4 ?_)
  case b2 => rw [hz532]; omega
  case b3 => unfold maxLen; omega
  case b4 => exact Nat.le_refl _
  intro w3 hown hgrow
  have A3 : Own w3 w2.heap.size n (fun _ => .slice none 0 0) := own_made (by rw [Nat.mul_one]; exact hown)
  have B3 : Below w2.heap.size w2 w3 := ⟨hgrow.os, hgrow.tape, hgrow.output, hgrow.size, fun k hk => hgrow.block k hk (by simp)⟩
  obtain ⟨qa, hqa⟩ : ∃ qa, w1.heap.size = qa := ⟨_, rfl⟩
  obtain ⟨qb, hqb⟩ : ∃ qb, w2.heap.size = qb := ⟨_, rfl⟩
  have M3 : Hid (Mk2 w3 qa qb n R 0 (fun _ => 0) (fun _ => 0)) := by
    rw [← hqa, ← hqb]
    exact Mk2.begin (A2.next B3) A3 (by have := A2.hi; omega)
  have HB3 : Hid (Below w.heap.size w w3) := by
    have h1 := B1.trans (B2.mono B1.size)
    exact h1.trans (B3.mono h1.size)
  have HQ : Hid (w.heap.size ≤ qa ∧ w.heap.size ≤ qb) := ⟨by rw [← hqa]; exact B1.size, by rw [← hqb]; have := B1.size; have := B2.size; omega⟩
  rw [hqa, hqb]
  clear hown hgrow A2 A3 hqa hqb B1 B2 B3 h62
  go_wp2
  go_loopw [27] (fun i wx => ∃ (k : Nat) (pa pb : Nat → Nat), k ≤ n ∧ i = .int .i64 k ∧ Hid (Mk2 wx qa qb n R k pa pb) ∧ Hid (Below w.heap.size w wx) ∧ Hid (∀ j, j < k → w.heap.size ≤ pa j ∧ w.heap.size ≤ pb j)) (fun i _ => n - (intOf i).toNat)
  case atStart => exact ⟨0, _, _, by omega, rfl, M3, HB3, fun j hj => by omega⟩
  case round =>
    obtain ⟨k, pa, pb, hk, rfl, MJ, BJ, LJ⟩ := hrel
    clear M3 HB3
    by_cases hkn : k < n
    · have i1 : (k : Int) < (n : Int) := by omega
      have i0 : (0 : Int) ≤ (k : Int) := by omega
      have ca := MJ.out.oa.cell k hkn
      go_wp2_with (at_make; refine wpList_make_full _ rfl _ _ 47 rfl wr.heap.size 4 i4 (.bool false) 1 Tryz.underlying47 hi4 hz40 hz41 .i64 .i64 _ _ R rfl rfl rfl rfl ?b2 ?b3 ?b4 ?_)
      case b2 => rw [hz42]; omega
      case b3 => unfold maxLen; omega
      case b4 => exact Nat.le_refl _
      intro w4 hown hgrow
      have A4 : Own w4 wr.heap.size R (fun _ => .bool false) := own_made (by rw [Nat.mul_one]; exact hown)
      have B4 : Below wr.heap.size wr w4 := ⟨hgrow.os, hgrow.tape, hgrow.output, hgrow.size, fun k hk => hgrow.block k hk (by simp)⟩
      clear hown hgrow ca
      have ca := (MJ.out.oa.next B4).cell k hkn
      have fa := (MJ.out.oa.next B4).free k
      have cb := ((MJ.out.ob.next B4).but ((Only.refl _ _).setCell k (.slice (some ⟨wr.heap.size, 0, none⟩) R R)) MJ.out.qq.symm).cell k hkn
      go_wp2_with (at_make; refine wpList_make_full _ rfl _ _ 47 rfl (w4.setCell ⟨qa, k, none⟩ (.slice (some ⟨wr.heap.size, 0, none⟩) R R)).heap.size 4 i4 (.bool false) 1 Tryz.underlying47 hi4 hz40 hz41 .i64 .i64 _ _ R rfl rfl rfl rfl ?b2 ?b3 ?b4 ?_)
      case b2 => rw [hz42]; omega
      case b3 => unfold maxLen; omega
      case b4 => exact Nat.le_refl _
      intro w5 hown hgrow
      obtain ⟨y, hy⟩ : ∃ y, w4.heap.size = y := ⟨_, rfl⟩
      have A5 : Own w5 y R (fun _ => .bool false) := by rw [← hy]; exact own_made (by rw [Nat.mul_one]; exact hown)
      have B5 : Below (w4.setCell ⟨qa, k, none⟩ (.slice (some ⟨wr.heap.size, 0, none⟩) R R)).heap.size (w4.setCell ⟨qa, k, none⟩ (.slice (some ⟨wr.heap.size, 0, none⟩) R R)) w5 := ⟨hgrow.os, hgrow.tape, hgrow.output, hgrow.size, fun k hk => hgrow.block k hk (by simp)⟩
      have M6 := MJ.out.step hkn A4 B4 (Nat.le_refl _) A5 B5 (by rw [← hy]; simp)
      have OB := ((MJ.out.ob.next B4).but ((Only.refl _ _).setCell k (.slice (some ⟨wr.heap.size, 0, none⟩) R R)) MJ.out.qq.symm).next B5
      have cb2 := OB.cell k hkn
      have fb := OB.free k
      have B6 : Hid (Below w.heap.size w (w5.setCell ⟨qb, k, none⟩ (.slice (some ⟨y, 0, none⟩) R R))) := by
        have h1 := BJ.out.trans (B4.mono BJ.out.size)
        have h2 := h1.setCell (p := ⟨qa, k, none⟩) HQ.out.1 (.slice (some ⟨wr.heap.size, 0, none⟩) R R)
        exact (h2.trans (B5.mono h2.size)).setCell (p := ⟨qb, k, none⟩) HQ.out.2 _
      have M7 : Hid (Mk2 (w5.setCell ⟨qb, k, none⟩ (.slice (some ⟨y, 0, none⟩) R R)) qa qb n R (k + 1) (upF pa k wr.heap.size) (upF pb k y)) := M6
      have L7 : Hid (∀ j, j < k + 1 → w.heap.size ≤ upF pa k wr.heap.size j ∧ w.heap.size ≤ upF pb k y j) := fun j hj => by
        by_cases e : j = k
        · subst e
          rw [upF_at, upF_at]
          have := BJ.out.size
          have := B4.size
          omega
        · rw [upF_lt _ _ _ _ (by omega), upF_lt _ _ _ _ (by omega)]
          exact LJ.out j (by omega)
      rw [hy]
      clear hown hgrow M6 A4 B4 A5 B5 OB MJ BJ LJ hy ca fa cb
      go_wp2
      go_roundw
      case rel => exact ⟨k + 1, _, _, by omega, by go_num, M7, B6, L7⟩
      case measure => simp [intOf]; omega
    · obtain rfl : n = k := by omega
      have i1 : ¬ (n : Int) < (n : Int) := by omega
      have G0 : Hid (Lv2 wr qa qb n R pa pb (fun _ _ => false) (fun _ _ => false)) := MJ.out.lv
      clear MJ
      go_wp2
      go_loopg [8] (cnt2 (fun _ _ => false) R n + cnt2 (fun _ _ => false) R n + 1) (fun gk tv wx => ∃ (T : Bool) (Ah Bh : Nat → Nat → Bool), gk = cnt2 Ah R n + cnt2 Bh R n + (if T then 1 else 0) ∧ tv = .bool T ∧ Hid (Lv2 wx qa qb n R pa pb Ah Bh) ∧ Hid (LvI c Ah Bh) ∧ Hid (Below w.heap.size w wx) ∧ Hid (T = false → ∀ j, j < n → LvC c R Ah Bh j))
      case atStart => exact ⟨true, _, _, rfl, rfl, G0, lvi_false c, BJ, fun e => by cases e⟩
      case round =>
        obtain ⟨T, A0, B0, hgk, rfl, G, I, BB, E⟩ := hrel
        clear G0 BJ
        cases T
        · have hE := E.out rfl
          have GE : Hid (Gr2 wr qb n R pb (lbB c)) := ⟨G.out.b.ptr, fun k hk => (G.out.b.row k hk).mono (Nat.le_refl _) (fun r hr => by show Value.bool _ = Value.bool _; rw [(lv_end I.out (fun k hk => hE k (by rw [← HN.out]; exact hk)) k r (by rw [HN.out]; exact hk) hr).2]), G.out.b.hi⟩
          have OA : Hid (Own wr (pa 0) R (fun r => .bool (laB c 0 r))) := (G.out.a.row 0 n0).mono (Nat.le_refl _) (fun r hr => by show Value.bool _ = Value.bool _; rw [(lv_end I.out (fun k hk => hE k (by rw [← HN.out]; exact hk)) 0 r (by rw [HN.out]; exact n0) hr).1])
          have ca := G.out.a.ptr 0 n0
          have q0 : (0 : Int) < (n : Int) := by omega
          clear hE E G I hgk
          go_wp2
          go_quiet (fail)
          go_wp2
          go_ret2
          exact ⟨qb, pa 0, pb, rfl, GE.out.next (below_drewN (Below.refl _ _) _), OA.out.next (below_drewN (Below.refl _ _) _), ⟨HQ.out.2, (LJ.out 0 n0).1, fun k hk => (LJ.out k hk).2⟩, below_drewN BB.out _⟩
        · have L0 : Hid (Lk c w qa qb n R pa pb (cnt2 A0 R n + cnt2 B0 R n) A0 B0 (∀ j, n ≤ j → j < n → LvC c R A0 B0 j) false A0 B0 wr) := ⟨G.out, I.out, by simp, fun _ => ⟨rfl, rfl, fun j h1 h2 => by omega⟩, BB.out, LJ.out⟩
          have HG : Hid (gk = cnt2 A0 R n + cnt2 B0 R n + 1) := hgk
          clear G I BB E hgk
          obtain ⟨N0, hN0⟩ : ∃ N0, cnt2 A0 R n + cnt2 B0 R n = N0 := ⟨_, rfl⟩
          rw [hN0] at L0 HG
          clear hN0
          go_wp2
          go_loopw [8, 9] (fun tv kv wx => ∃ (m : Nat) (T : Bool) (Ah Bh : Nat → Nat → Bool), m ≤ n ∧ kv = .int .i64 ((m : Int) - 1) ∧ tv = .bool T ∧ Hid (Lk c w qa qb n R pa pb N0 A0 B0 (∀ j, m ≤ j → j < n → LvC c R A0 B0 j) T Ah Bh wx)) (fun _ kv _ => (intOf kv + 1).toNat)
          case atStart => exact ⟨n, false, A0, B0, Nat.le_refl _, rfl, rfl, L0⟩
          case round =>
            obtain ⟨m, T, Ah, Bh, hm, rfl, rfl, LK⟩ := hrel
            clear L0
            rcases m with _ | k
            · have z : ¬ (0 : Int) ≤ ((0 : Nat) : Int) - 1 := by omega
              go_wp2
              go_roundg (cnt2 Ah R n + cnt2 Bh R n + (if T then 1 else 0))
              case measure => have := LK.out.m; have := HG.out; omega
              case rel => exact ⟨T, Ah, Bh, rfl, rfl, LK.out.g, LK.out.i, LK.out.b, fun e j hj => by
                obtain ⟨h1, h2, h3⟩ := LK.out.f e
                rw [h1, h2]
                exact h3 j (Nat.zero_le _) hj⟩
            · have e1 : ((k + 1 : Nat) : Int) - 1 = (k : Int) := by omega
              have hk : k < n := by omega
              have hkc : k < c.n := by rw [HN.out]; exact hk
              have k0 : (0 : Int) ≤ (k : Int) := by omega
              have k1 : (k : Int) < (n : Int) := by omega
              rw [e1]
              have H63 : Hid (∀ v, Below w.heap.size w v → Calls Tryz.prog 74 #[.slice (some ⟨a, 0, none⟩) n cap, .int .i64 (k : Int)] v fun e w' => ∃ u, e = .returned u ∧ Ri v.heap.size w' u (nxL (c.O k) (c.A k) (c.B k) (c.C k) k n) ∧ Below v.heap.size v w') := fun v b => next63 n a cap k c.O c.D c.A c.B c.C c.X v (HR.out.next b) hk (by omega)
              have HM : Hid (∀ t : Int, t ∈ nxL (c.O k) (c.A k) (c.B k) (c.C k) k n → 0 ≤ t ∧ t < n) := fun t ht => by
                unfold nxL at ht
                rcases List.mem_append.1 ht with h | h
                · split at h
                  · cases h
                  · simp only [List.mem_singleton] at h; omega
                · have := HK.out.tg k hkc t h
                  rw [HN.out] at this
                  exact this
              have HS : Hid (∀ t : Nat, t < n → ((t : Int) ∈ nxL (c.O k) (c.A k) (c.B k) (c.C k) k n ↔ (t : Int) ∈ sucL (c.O k) (c.A k) (c.B k) (c.C k) k)) := fun t ht => nx_suc _ _ _ _ k n t ht
              have hl3 := nx_len (c.O k) (c.A k) (c.B k) (c.C k) k n
              generalize nxL (c.O k) (c.A k) (c.B k) (c.C k) k n = M at H63 HM HS hl3
              obtain ⟨ml, hml⟩ : ∃ ml, M.length = ml := ⟨_, rfl⟩
              have ml3 : ml ≤ 3 := by omega
              clear hl3
              go_wp2_with (go_at_call 74; refine (H63.out _ LK.out.b).mono ?_; rintro e w3 ⟨u, rfl, LU, B3⟩; (obtain ⟨ad, cp, rfl, TL⟩ := Tl.of (n := n) (pa := pa) (pb := pb) LU (fun i hi => ⟨(LK.out.g.a.row i hi).hi, (LK.out.g.b.row i hi).hi⟩)))
              have LK1 : Hid (Lk c w qa qb n R pa pb N0 A0 B0 ((∀ j, k + 1 ≤ j → j < n → LvC c R A0 B0 j) ∧ ∀ t : Nat, (t : Int) ∈ M.take 0 → ∀ r, r < R → A0 t r = true → B0 k r = true) T Ah Bh w3) := (LK.out.next B3).seen (fun _ _ _ q => ⟨q, fun t ht => by simp at ht⟩)
              have TL1 : Hid (Tl w3 n pa pb ad M) := TL
              have HML : Hid (M.length = ml) := hml
              try rw [hml]
              clear LK LU TL B3 hml
              go_loopw [8, 53] (fun tv i wx => ∃ (j : Nat) (T : Bool) (Ah Bh : Nat → Nat → Bool), j ≤ ml ∧ i = .int .i64 j ∧ tv = .bool T ∧ Hid (Lk c w qa qb n R pa pb N0 A0 B0 ((∀ j, k + 1 ≤ j → j < n → LvC c R A0 B0 j) ∧ ∀ t : Nat, (t : Int) ∈ M.take j → ∀ r, r < R → A0 t r = true → B0 k r = true) T Ah Bh wx) ∧ Hid (Tl wx n pa pb ad M)) (fun _ i _ => ml - (intOf i).toNat)
              case atStart => exact ⟨0, T, Ah, Bh, Nat.zero_le _, rfl, rfl, LK1, TL1⟩
              case round =>
                obtain ⟨j, T, Ah, Bh, hj, rfl, rfl, LK, TL⟩ := hrel
                clear LK1 TL1
                by_cases hjm : j < ml
                · have i2 : (j : Int) < (ml : Int) := by omega
                  have j0 : (0 : Int) ≤ (j : Int) := by omega
                  have hjM : j < M.length := by rw [HML.out]; exact hjm
                  obtain ⟨g, had, hg, ct⟩ := TL.out j hjM
                  subst had
                  have hmem : M.getD j 0 ∈ M := by simp [List.getD, hjM]
                  have tb := HM.out _ hmem
                  have HTk : Hid (∀ x : Int, x ∈ M.take (j + 1) → x ∈ M.take j ∨ x = M.getD j 0) := fun x hx => take_mem hjM hx
                  generalize M.getD j 0 = t at ct tb HTk hmem
                  obtain ⟨tn, rfl⟩ : ∃ tn : Nat, t = (tn : Int) := ⟨t.toNat, by omega⟩
                  have htn : tn < n := by omega
                  have HSu : Hid ((tn : Int) ∈ sucL (c.O k) (c.A k) (c.B k) (c.C k) k) := (HS.out tn htn).1 hmem
                  have pb0 := LK.out.g.b.ptr k hk
                  have t0 : (0 : Int) ≤ (tn : Int) := by omega
                  have t1 : (tn : Int) < (n : Int) := by omega
                  have LK2 : Hid (Lk c w qa qb n R pa pb N0 A0 B0 (((∀ j, k + 1 ≤ j → j < n → LvC c R A0 B0 j) ∧ ∀ t : Nat, (t : Int) ∈ M.take j → ∀ r, r < R → A0 t r = true → B0 k r = true) ∧ ∀ s, s < 0 → A0 tn s = true → B0 k s = true) T Ah Bh wr) := LK.out.seen (fun _ _ _ q => ⟨q, fun s hs => by omega⟩)
                  have TL2 : Hid (Tl wr n pa pb (some ⟨g, 0, none⟩) M) := TL
                  clear LK TL
                  go_wp2
                  clear pb0 ct
                  go_loopw [8, 62] (fun tv i wx => ∃ (r : Nat) (T : Bool) (Ah Bh : Nat → Nat → Bool), r ≤ R ∧ i = .int .i64 r ∧ tv = .bool T ∧ Hid (Lk c w qa qb n R pa pb N0 A0 B0 (((∀ j, k + 1 ≤ j → j < n → LvC c R A0 B0 j) ∧ ∀ t : Nat, (t : Int) ∈ M.take j → ∀ r, r < R → A0 t r = true → B0 k r = true) ∧ ∀ s, s < r → A0 tn s = true → B0 k s = true) T Ah Bh wx) ∧ Hid (Tl wx n pa pb (some ⟨g, 0, none⟩) M)) (fun _ i _ => R - (intOf i).toNat)
                  case atStart => exact ⟨0, T, Ah, Bh, Nat.zero_le _, rfl, rfl, LK2, TL2⟩
                  case round =>
                    obtain ⟨r, T, Ah, Bh, hr, rfl, rfl, LK, TL⟩ := hrel
                    clear LK2 TL2
                    by_cases hrR : r < R
                    · have i3 : (r : Int) < (R : Int) := by omega
                      have r0 : (0 : Int) ≤ (r : Int) := by omega
                      have pa1 := LK.out.g.a.ptr tn htn
                      have pb1 := LK.out.g.b.ptr k hk
                      have ca := (LK.out.g.a.row tn htn).cell r hrR
                      have cb := (LK.out.g.b.row k hk).cell r hrR
                      have fb := (LK.out.g.b.row k hk).free r
                      cases hA : Ah tn r
                      · rw [hA] at ca
                        have LN : Hid (Lk c w qa qb n R pa pb N0 A0 B0 (((∀ j, k + 1 ≤ j → j < n → LvC c R A0 B0 j) ∧ ∀ t : Nat, (t : Int) ∈ M.take j → ∀ r, r < R → A0 t r = true → B0 k r = true) ∧ ∀ s, s < r + 1 → A0 tn s = true → B0 k s = true) T Ah Bh wr) := LK.out.seen (fun _ ea eb q => ⟨q.1, fun s hs h => by
                          by_cases e : s = r
                          · subst e; rw [← ea, hA] at h; cases h
                          · exact q.2 s (by omega) h⟩)
                        clear LK hA
                        go_wp2
                        go_roundw
                        case rel => exact ⟨r + 1, T, Ah, Bh, by omega, by go_num, rfl, LN, TL⟩
                        case measure => simp [intOf]; omega
                      · rw [hA] at ca
                        cases hB : Bh k r
                        · rw [hB] at cb
                          have LN : Hid (Lk c w qa qb n R pa pb N0 A0 B0 (((∀ j, k + 1 ≤ j → j < n → LvC c R A0 B0 j) ∧ ∀ t : Nat, (t : Int) ∈ M.take j → ∀ r, r < R → A0 t r = true → B0 k r = true) ∧ ∀ s, s < r + 1 → A0 tn s = true → B0 k s = true) true Ah (put2 Bh k r) (wr.setCell ⟨pb k, r, none⟩ (.bool true))) := LK.out.putB _ hk hrR HSu.out hA hB
                          have TN : Hid (Tl (wr.setCell ⟨pb k, r, none⟩ (.bool true)) n pa pb (some ⟨g, 0, none⟩) M) := TL.out.putB hk _
                          clear LK hA hB TL
                          go_wp2
                          go_roundw
                          case rel => exact ⟨r + 1, true, _, _, by omega, by go_num, rfl, LN, TN⟩
                          case measure => simp [intOf]; omega
                        · rw [hB] at cb
                          have LN : Hid (Lk c w qa qb n R pa pb N0 A0 B0 (((∀ j, k + 1 ≤ j → j < n → LvC c R A0 B0 j) ∧ ∀ t : Nat, (t : Int) ∈ M.take j → ∀ r, r < R → A0 t r = true → B0 k r = true) ∧ ∀ s, s < r + 1 → A0 tn s = true → B0 k s = true) T Ah Bh wr) := LK.out.seen (fun _ ea eb q => ⟨q.1, fun s hs h => by
                            by_cases e : s = r
                            · subst e; rw [← eb, hB]
                            · exact q.2 s (by omega) h⟩)
                          clear LK hA hB
                          go_wp2
                          go_roundw
                          case rel => exact ⟨r + 1, T, Ah, Bh, by omega, by go_num, rfl, LN, TL⟩
                          case measure => simp [intOf]; omega
                    · obtain rfl : R = r := by omega
                      have i3 : ¬ (R : Int) < (R : Int) := by omega
                      have LN : Hid (Lk c w qa qb n R pa pb N0 A0 B0 ((∀ j, k + 1 ≤ j → j < n → LvC c R A0 B0 j) ∧ ∀ t : Nat, (t : Int) ∈ M.take (j + 1) → ∀ r, r < R → A0 t r = true → B0 k r = true) T Ah Bh wr) := LK.out.seen (fun _ ea eb q => ⟨q.1.1, fun t ht r hr h => by
                        rcases HTk.out _ ht with h1 | h1
                        · exact q.1.2 t h1 r hr h
                        · obtain rfl : t = tn := by omega
                          exact q.2 r hr h⟩)
                      clear LK
                      go_wp2
                      go_roundw
                      case rel => exact ⟨j + 1, T, Ah, Bh, by omega, by go_num, rfl, LN, TL⟩
                      case measure => simp [intOf]; omega
                · obtain rfl : ml = j := by omega
                  have i2 : ¬ (ml : Int) < (ml : Int) := by omega
                  have Q1 : Hid (Lk c w qa qb n R pa pb N0 A0 B0 (((∀ j, k + 1 ≤ j → j < n → LvC c R A0 B0 j) ∧ ∀ t : Nat, (t : Int) ∈ sucL (c.O k) (c.A k) (c.B k) (c.C k) k → t < c.n → ∀ r, r < R → A0 t r = true → B0 k r = true)) T Ah Bh wr) := LK.out.seen (fun _ ea eb q => ⟨q.1, fun t ht htn => q.2 t (by rw [List.take_of_length_le (by rw [HML.out]; exact Nat.le_refl _)]; rw [HN.out] at htn; exact (HS.out t htn).2 ht)⟩)
                  clear LK TL HS HM HML H63
                  have RK := HR.out.next Q1.out.b
                  have c0 := RK.c0 k hk
                  have c1 := RK.c1 k hk
                  have c2 := RK.c2 k hk
                  have c3 := RK.c3 k hk
                  have c4 := RK.c4 k hk
                  have c5 := RK.c5 k hk
                  have h54 := fun v => writes63 (c.O k) (c.D k) (c.A k) (c.B k) (c.C k) (c.X k) v (HK.out.ops k hkc)
                  have HW : Hid (∀ r : Nat, c.wr k r ↔ (r : Int) = if nmd (c.O k) 0 then c.D k else -1) := fun r => by
                    unfold Cd.wr
                    cases h : nmd (c.O k) 0
                    · simp <;> omega
                    · have := HK.out.wr k hkc h
                      simp <;> omega
                  generalize (if nmd (c.O k) 0 then c.D k else -1) = d at h54 HW
                  clear RK
                  go_wp2_with (go_at_call 40; refine (h54 _).mono ?_; rintro e w4 ⟨rfl, B4⟩; (have pa4 := (Q1.out.next B4).g.a.ptr k hk))
                  have LK1 : Hid (Lk c w qa qb n R pa pb N0 A0 B0 (((∀ j, k + 1 ≤ j → j < n → LvC c R A0 B0 j) ∧ ∀ t : Nat, (t : Int) ∈ sucL (c.O k) (c.A k) (c.B k) (c.C k) k → t < c.n → ∀ r, r < R → A0 t r = true → B0 k r = true) ∧ ∀ s, s < 0 → B0 k s = true → ¬ c.wr k s → A0 k s = true) T Ah Bh w4) := (Q1.out.next B4).seen (fun _ _ _ q => ⟨q, fun s hs => by omega⟩)
                  clear Q1 B4 pa4 h54 c0 c1 c2 c3 c4 c5
                  go_loopw [8, 100] (fun tv i wx => ∃ (r : Nat) (T : Bool) (Ah Bh : Nat → Nat → Bool), r ≤ R ∧ i = .int .i64 r ∧ tv = .bool T ∧ Hid (Lk c w qa qb n R pa pb N0 A0 B0 (((∀ j, k + 1 ≤ j → j < n → LvC c R A0 B0 j) ∧ ∀ t : Nat, (t : Int) ∈ sucL (c.O k) (c.A k) (c.B k) (c.C k) k → t < c.n → ∀ r, r < R → A0 t r = true → B0 k r = true) ∧ ∀ s, s < r → B0 k s = true → ¬ c.wr k s → A0 k s = true) T Ah Bh wx)) (fun _ i _ => R - (intOf i).toNat)
                  case atStart => exact ⟨0, T, Ah, Bh, Nat.zero_le _, rfl, rfl, LK1⟩
                  case round =>
                    obtain ⟨r, T, Ah, Bh, hr, rfl, rfl, LK⟩ := hrel
                    clear LK1
                    by_cases hrR : r < R
                    · have i3 : (r : Int) < (R : Int) := by omega
                      have r0 : (0 : Int) ≤ (r : Int) := by omega
                      have pa1 := LK.out.g.a.ptr k hk
                      have pb1 := LK.out.g.b.ptr k hk
                      have ca := (LK.out.g.a.row k hk).cell r hrR
                      have cb := (LK.out.g.b.row k hk).cell r hrR
                      have fa := (LK.out.g.a.row k hk).free r
                      have hw := HW.out r
                      cases hB : Bh k r
                      · rw [hB] at cb
                        have LN : Hid (Lk c w qa qb n R pa pb N0 A0 B0 (((∀ j, k + 1 ≤ j → j < n → LvC c R A0 B0 j) ∧ ∀ t : Nat, (t : Int) ∈ sucL (c.O k) (c.A k) (c.B k) (c.C k) k → t < c.n → ∀ r, r < R → A0 t r = true → B0 k r = true) ∧ ∀ s, s < r + 1 → B0 k s = true → ¬ c.wr k s → A0 k s = true) T Ah Bh wr) := LK.out.seen (fun _ ea eb q => ⟨q.1, fun s hs h hs2 => by
                          by_cases e : s = r
                          · subst e; rw [← eb, hB] at h; cases h
                          · exact q.2 s (by omega) h hs2⟩)
                        clear LK hB hw
                        go_wp2
                        go_roundw
                        case rel => exact ⟨r + 1, T, Ah, Bh, by omega, by go_num, rfl, LN⟩
                        case measure => simp [intOf]; omega
                      · rw [hB] at cb
                        by_cases hd : (r : Int) = d
                        · have LN : Hid (Lk c w qa qb n R pa pb N0 A0 B0 (((∀ j, k + 1 ≤ j → j < n → LvC c R A0 B0 j) ∧ ∀ t : Nat, (t : Int) ∈ sucL (c.O k) (c.A k) (c.B k) (c.C k) k → t < c.n → ∀ r, r < R → A0 t r = true → B0 k r = true) ∧ ∀ s, s < r + 1 → B0 k s = true → ¬ c.wr k s → A0 k s = true) T Ah Bh wr) := LK.out.seen (fun _ ea eb q => ⟨q.1, fun s hs h hs2 => by
                            by_cases e : s = r
                            · subst e; exact absurd (hw.2 hd) hs2
                            · exact q.2 s (by omega) h hs2⟩)
                          have f1 : ((r : Int) != d) = false := by simp [hd]
                          have f2 : ((r : Int) == d) = true := by simp [hd]
                          clear LK hB hw hd
                          go_wp2
                          go_roundw
                          case rel => exact ⟨r + 1, T, Ah, Bh, by omega, by go_num, rfl, LN⟩
                          case measure => simp [intOf]; omega
                        · have f1 : ((r : Int) != d) = true := by simp [hd]
                          have f2 : ((r : Int) == d) = false := by simp [hd]
                          cases hA : Ah k r
                          · rw [hA] at ca
                            have LN : Hid (Lk c w qa qb n R pa pb N0 A0 B0 (((∀ j, k + 1 ≤ j → j < n → LvC c R A0 B0 j) ∧ ∀ t : Nat, (t : Int) ∈ sucL (c.O k) (c.A k) (c.B k) (c.C k) k → t < c.n → ∀ r, r < R → A0 t r = true → B0 k r = true) ∧ ∀ s, s < r + 1 → B0 k s = true → ¬ c.wr k s → A0 k s = true) true (put2 Ah k r) Bh (wr.setCell ⟨pa k, r, none⟩ (.bool true))) := LK.out.putA _ hk hrR (LA.of_behind hkc (LK.out.i.behind k r hB) (fun x => hd (hw.1 x))) hA
                            clear LK hB hw hA
                            go_wp2
                            go_roundw
                            case rel => exact ⟨r + 1, true, _, _, by omega, by go_num, rfl, LN⟩
                            case measure => simp [intOf]; omega
                          · rw [hA] at ca
                            have LN : Hid (Lk c w qa qb n R pa pb N0 A0 B0 (((∀ j, k + 1 ≤ j → j < n → LvC c R A0 B0 j) ∧ ∀ t : Nat, (t : Int) ∈ sucL (c.O k) (c.A k) (c.B k) (c.C k) k → t < c.n → ∀ r, r < R → A0 t r = true → B0 k r = true) ∧ ∀ s, s < r + 1 → B0 k s = true → ¬ c.wr k s → A0 k s = true) T Ah Bh wr) := LK.out.seen (fun _ ea eb q => ⟨q.1, fun s hs h hs2 => by
                              by_cases e : s = r
                              · subst e; rw [← ea, hA]
                              · exact q.2 s (by omega) h hs2⟩)
                            clear LK hB hw hA
                            go_wp2
                            go_roundw
                            case rel => exact ⟨r + 1, T, Ah, Bh, by omega, by go_num, rfl, LN⟩
                            case measure => simp [intOf]; omega
                    · obtain rfl : R = r := by omega
                      have i3 : ¬ (R : Int) < (R : Int) := by omega
                      have RK := HR.out.next LK.out.b
                      have c0 := RK.c0 k hk
                      have c1 := RK.c1 k hk
                      have c2 := RK.c2 k hk
                      have c3 := RK.c3 k hk
                      have c4 := RK.c4 k hk
                      have c5 := RK.c5 k hk
                      have h64 := fun v => reads39 (c.O k) (c.D k) (c.A k) (c.B k) (c.C k) (c.X k) v (HK.out.hx k hkc).1 (HK.out.hx k hkc).2 (HK.out.ops k hkc) (HK.out.h4 k hkc)
                      have HM : Hid (∀ r : Int, r ∈ srt (opsL (c.O k) (c.A k) (c.B k) (c.C k) (c.X k)) ↔ r ∈ opsL (c.O k) (c.A k) (c.B k) (c.C k) (c.X k)) := fun r => srt_mem r _
                      have hl3 : (srt (opsL (c.O k) (c.A k) (c.B k) (c.C k) (c.X k))).length ≤ 1000 := by
                        have := srt_len (opsL (c.O k) (c.A k) (c.B k) (c.C k) (c.X k))
                        have := opsL_len (c.O k) (c.A k) (c.B k) (c.C k) (c.X k)
                        omega
                      generalize srt (opsL (c.O k) (c.A k) (c.B k) (c.C k) (c.X k)) = M at h64 HM hl3
                      obtain ⟨ml, hml⟩ : ∃ ml, M.length = ml := ⟨_, rfl⟩
                      have ml3 : ml ≤ 1000 := by omega
                      clear hl3 RK
                      go_wp2_with (go_at_call 73; refine (h64 _).mono ?_; rintro e w5 ⟨u, rfl, LU, B5⟩; (obtain ⟨ad, cp, rfl, TL⟩ := Tl.of (n := n) (pa := pa) (pb := pb) LU (fun i hi => ⟨(LK.out.g.a.row i hi).hi, (LK.out.g.b.row i hi).hi⟩)))
                      have LK1 : Hid (Lk c w qa qb n R pa pb N0 A0 B0 ((((∀ j, k + 1 ≤ j → j < n → LvC c R A0 B0 j) ∧ ∀ t : Nat, (t : Int) ∈ sucL (c.O k) (c.A k) (c.B k) (c.C k) k → t < c.n → ∀ r, r < R → A0 t r = true → B0 k r = true) ∧ ∀ s, s < R → B0 k s = true → ¬ c.wr k s → A0 k s = true) ∧ ∀ s : Nat, (s : Int) ∈ M.take 0 → A0 k s = true) T Ah Bh w5) := (LK.out.next B5).seen (fun _ _ _ q => ⟨q, fun t ht => by simp at ht⟩)
                      have TL1 : Hid (Tl w5 n pa pb ad M) := TL
                      have HML : Hid (M.length = ml) := hml
                      try rw [hml]
                      clear LK LU TL B5 hml c0 c1 c2 c3 c4 c5 h64
                      go_loopw [8, 138] (fun tv i wx => ∃ (j : Nat) (T : Bool) (Ah Bh : Nat → Nat → Bool), j ≤ ml ∧ i = .int .i64 j ∧ tv = .bool T ∧ Hid (Lk c w qa qb n R pa pb N0 A0 B0 ((((∀ j, k + 1 ≤ j → j < n → LvC c R A0 B0 j) ∧ ∀ t : Nat, (t : Int) ∈ sucL (c.O k) (c.A k) (c.B k) (c.C k) k → t < c.n → ∀ r, r < R → A0 t r = true → B0 k r = true) ∧ ∀ s, s < R → B0 k s = true → ¬ c.wr k s → A0 k s = true) ∧ ∀ s : Nat, (s : Int) ∈ M.take j → A0 k s = true) T Ah Bh wx) ∧ Hid (Tl wx n pa pb ad M)) (fun _ i _ => ml - (intOf i).toNat)
                      case atStart => exact ⟨0, T, Ah, Bh, Nat.zero_le _, rfl, rfl, LK1, TL1⟩
                      case round =>
                        obtain ⟨j, T, Ah, Bh, hj, rfl, rfl, LK, TL⟩ := hrel
                        clear LK1 TL1
                        by_cases hjm : j < ml
                        · have i2 : (j : Int) < (ml : Int) := by omega
                          have j0 : (0 : Int) ≤ (j : Int) := by omega
                          have hjM : j < M.length := by rw [HML.out]; exact hjm
                          obtain ⟨g, had, hg, ct⟩ := TL.out j hjM
                          subst had
                          have hmem : M.getD j 0 ∈ M := by simp [List.getD, hjM]
                          have HTk : Hid (∀ x : Int, x ∈ M.take (j + 1) → x ∈ M.take j ∨ x = M.getD j 0) := fun x hx => take_mem hjM hx
                          generalize M.getD j 0 = t at ct HTk hmem
                          have hop := (HM.out t).1 hmem
                          have tb := HK.out.rd k hkc t hop
                          obtain ⟨tn, rfl⟩ : ∃ tn : Nat, t = (tn : Int) := ⟨t.toNat, by omega⟩
                          have htn : tn < R := by omega
                          have HLA : Hid (LA c k tn) := .read k tn hkc hop
                          have pa1 := LK.out.g.a.ptr k hk
                          have ca := (LK.out.g.a.row k hk).cell tn htn
                          have fa := (LK.out.g.a.row k hk).free tn
                          have t0 : (0 : Int) ≤ (tn : Int) := by omega
                          have t1 : (tn : Int) < (R : Int) := by omega
                          clear hop hmem
                          cases hA : Ah k tn
                          · rw [hA] at ca
                            have LN : Hid (Lk c w qa qb n R pa pb N0 A0 B0 ((((∀ j, k + 1 ≤ j → j < n → LvC c R A0 B0 j) ∧ ∀ t : Nat, (t : Int) ∈ sucL (c.O k) (c.A k) (c.B k) (c.C k) k → t < c.n → ∀ r, r < R → A0 t r = true → B0 k r = true) ∧ ∀ s, s < R → B0 k s = true → ¬ c.wr k s → A0 k s = true) ∧ ∀ s : Nat, (s : Int) ∈ M.take (j + 1) → A0 k s = true) true (put2 Ah k tn) Bh (wr.setCell ⟨pa k, tn, none⟩ (.bool true))) := LK.out.putA _ hk htn HLA.out hA
                            have TN : Hid (Tl (wr.setCell ⟨pa k, tn, none⟩ (.bool true)) n pa pb (some ⟨g, 0, none⟩) M) := TL.out.putA hk _
                            clear LK hA TL
                            go_wp2
                            go_roundw
                            case rel => exact ⟨j + 1, true, _, _, by omega, by go_num, rfl, LN, TN⟩
                            case measure => simp [intOf]; omega
                          · rw [hA] at ca
                            have LN : Hid (Lk c w qa qb n R pa pb N0 A0 B0 ((((∀ j, k + 1 ≤ j → j < n → LvC c R A0 B0 j) ∧ ∀ t : Nat, (t : Int) ∈ sucL (c.O k) (c.A k) (c.B k) (c.C k) k → t < c.n → ∀ r, r < R → A0 t r = true → B0 k r = true) ∧ ∀ s, s < R → B0 k s = true → ¬ c.wr k s → A0 k s = true) ∧ ∀ s : Nat, (s : Int) ∈ M.take (j + 1) → A0 k s = true) T Ah Bh wr) := LK.out.seen (fun _ ea eb q => ⟨q.1, fun s hs => by
                              rcases HTk.out _ hs with h1 | h1
                              · exact q.2 s h1
                              · obtain rfl : s = tn := by omega
                                rw [← ea, hA]⟩)
                            clear LK hA
                            go_wp2
                            go_roundw
                            case rel => exact ⟨j + 1, T, Ah, Bh, by omega, by go_num, rfl, LN, TL⟩
                            case measure => simp [intOf]; omega
                        · obtain rfl : ml = j := by omega
                          have i2 : ¬ (ml : Int) < (ml : Int) := by omega
                          have LN : Hid (Lk c w qa qb n R pa pb N0 A0 B0 (∀ j, k ≤ j → j < n → LvC c R A0 B0 j) T Ah Bh wr) := LK.out.seen (fun _ ea eb q => fun j h1 h2 => by
                            by_cases e : j = k
                            · subst e
                              exact ⟨q.1.1.2, q.1.2, fun r hr => q.2 r (by rw [List.take_of_length_le (by rw [HML.out]; exact Nat.le_refl _)]; exact (HM.out _).2 hr)⟩
                            · exact q.1.1.1 j (by omega) h2)
                          clear LK TL
                          go_wp2
                          go_roundw
                          case rel => exact ⟨k, T, Ah, Bh, by omega, by go_num, rfl, LN⟩
                          case measure => simp [intOf]; try omega
end Go.Proofs.YtmeokhppaekhpaaGreatDoor
