/- The model's ReadTokens: what it reads, by its loop; conditions: a text of at most 2000 bytes. -/
import Derived.Test.YtpildklndfgojaaDoorTokO
import Derived.Deep.LoopGhost
import Derived.Deep.Cut
import Derived.Deep.DeepCutAuto
import Derived.Deep.RegionHeld3
namespace Go.Proofs.YtpildklndfgojaaDoor.Tk
open Go.ChangeShapes Go.WideShapes Go.ChangeAt Go.RowKit
set_option linter.unusedVariables false
set_option maxHeartbeats 16000000 in
set_option maxRecDepth 100000 in
theorem read18 (s : ByteArray) (w : World) (hs : s.size ≤ 2000) (R : List Tok × Int × Nat) (hR : scan s (s.size + 1) 0 [] = R) : Calls Tryd.prog 18 #[.string s] w fun e w' => ∃ v, e = .returned (.agg #[v, .int .i64 R.2.1, .int .i64 (R.2.2 : Nat)]) ∧ RowV w' v R.1.length (tkK R.1) (tkT R.1) (tkJ R.1) ∧ (∀ g, v.ownBlock = some g → w.heap.size ≤ g) ∧ Below w.heap.size w w' := by
  have hs' : ¬ (2000 : Int) < (s.size : Int) := by omega
  have hsz : (s.size : Int) ≤ 2000 := by omega
  have H0 : Hid (scan s (s.size + 1) 0 [] = R) := hR
  clear hR
  go_enter Tryd.func18, Tryd.ntmps18
  go_wp2
  go_loopg [4] s.size (fun k iv wr => ∃ (i f : Nat) (v : Value) (tl : List Tok), iv = .int .i64 (i : Nat) ∧ i ≤ s.size ∧ k = s.size - i ∧ s.size ≤ i + f ∧ Hid (scan s (f + 1) i tl = R) ∧ Mem18 w v tl wr)
  case atStart => exact ⟨0, s.size, .slice none 0 0, [], rfl, by omega, by omega, by omega, H0, Mem18.start w⟩
  case round =>
    clear H0
    obtain ⟨i, f, v, tl, rfl, hi, hk, hf, HR, M⟩ := hrel
    obtain ⟨po, cap, rfl⟩ := M.shape
    have HM : Hid (Mem18 w (.slice po tl.length cap) tl wr) := M
    have i0 : (0 : Int) ≤ (i : Int) := by omega
    have i2 : (i : Int) ≤ (s.size : Int) := by omega
    by_cases hlt : i < s.size
    · have i1 : (i : Int) < (s.size : Int) := by omega
      obtain ⟨b, hb⟩ : ∃ b : Int, ((bt s i 0 : Nat) : Int) = b := ⟨_, rfl⟩
      have hB : (((s[i]'hlt).toNat : Nat) : Int) = b := by rw [← hb]; exact congrArg Int.ofNat (bt_eq s i 0 hlt)
      have HLT : Hid (i < s.size) := hlt
      by_cases c1 : bt s i 0 = 32 ∨ bt s i 0 = 9 ∨ bt s i 0 = 10
      · as_aux_lemma =>
          have HC : Hid (scan s f (i + 1) tl = R) := by
            have := HR.out
            rw [scan_skip hlt (k := 1) (by unfold skipN; rw [if_pos c1]) (by decide)] at this
            exact this
          clear M HR
          have hk2 : s.size - (i + 1) < gk := by omega
          obtain ⟨g, rfl⟩ : ∃ g, f = g + 1 := ⟨f - 1, by omega⟩
          rcases c1 with c1 | c1 | c1
          all_goals
            rw [c1] at hb
            subst hb
            clear c1
            go_wp2
            go_roundg (s.size - (i + 1))
            case measure => exact hk2
            case rel => exact ⟨i + 1, g, _, tl, by go_num, by have := HLT.out; omega, rfl, by omega, HC, HM.out⟩
      have n32 : (b == 32) = false := by simp; omega
      have n9 : (b == 9) = false := by simp; omega
      have n10 : (b == 10) = false := by simp; omega
      have HN1 : Hid (¬ (bt s i 0 = 32 ∨ bt s i 0 = 9 ∨ bt s i 0 = 10)) := c1
      clear c1
      by_cases c2 : bt s i 0 = 47 ∧ i + 1 < s.size ∧ bt s i 1 = 47
      · as_aux_lemma =>
          obtain ⟨c2a, c2b, c2c⟩ := c2
          have HC : Hid (scan s f (i + lineL (s.data.toList.drop i)) tl = R) := by
            have := HR.out
            rw [scan_skip hlt (k := lineL (s.data.toList.drop i)) (by unfold skipN; rw [if_neg HN1.out, if_pos ⟨c2a, c2b, c2c⟩]) (by have := line_pos s i hlt (by omega); omega)] at this
            exact this
          have HP : Hid (0 < lineL (s.data.toList.drop i)) := line_pos s i hlt (by omega)
          have j1 : ((i + 1 : Nat) : Int) < (s.size : Int) := by omega
          have j0 : (0 : Int) ≤ ((i + 1 : Nat) : Int) := by omega
          have hw1 : IntKind.i64.wrap ((i : Int) + 1) = ((i + 1 : Nat) : Int) := by rw [wr64 _ (by omega) (by omega)]; omega
          have hB1 : (((s[i + 1]'c2b).toNat : Nat) : Int) = 47 := by
            have e := congrArg Int.ofNat (bt_eq s i 1 c2b)
            have e2 : Int.ofNat (bt s i 1) = 47 := by rw [c2c]; rfl
            exact e.trans e2
          obtain rfl : b = 47 := by omega
          clear M HR hb c2a c2c
          go_wp2
          go_loopg [4] (s.size - i) (fun k iv wx => ∃ j : Nat, iv = .int .i64 (j : Nat) ∧ i ≤ j ∧ j ≤ s.size ∧ k = s.size - j ∧ Hid (∀ q, i ≤ q → q < j → bt s q 0 ≠ 10) ∧ wx = wr)
          case atStart => exact ⟨i, rfl, by omega, by omega, rfl, (fun q h1 h2 => by omega), rfl⟩
          case round =>
            obtain ⟨j, rfl, hij, hj, hkj, HQ, rfl⟩ := hrel
            by_cases hjl : j < s.size
            · obtain ⟨c, hc⟩ : ∃ c : Int, ((bt s j 0 : Nat) : Int) = c := ⟨_, rfl⟩
              have hCc : (((s[j]'hjl).toNat : Nat) : Int) = c := by rw [← hc]; exact congrArg Int.ofNat (bt_eq s j 0 hjl)
              have q0 : (0 : Int) ≤ (j : Int) := by omega
              have q1 : (j : Int) < (s.size : Int) := by omega
              have HJL : Hid (j < s.size) := hjl
              have HCc : Hid (((bt s j 0 : Nat) : Int) = c) := hc
              clear hc
              by_cases z : c = 10
              · as_aux_lemma =>
                  subst z
                  go_wp2
                  have hl := line_at s i j hij (by omega) HQ.out (Or.inr (by have := HCc.out; omega))
                  have hp := HP.out
                  have hjj := HJL.out
                  obtain ⟨g, rfl⟩ : ∃ g, f = g + 1 := ⟨f - 1, by omega⟩
                  go_roundg (s.size - j)
                  case measure => omega
                  case rel => exact ⟨j, g, _, tl, rfl, by omega, rfl, by omega, by rw [← hl]; exact HC, HM.out⟩
              · have z1 : (c == 10) = false := by simpa using z
                have z2 : (c != 10) = true := by simpa using z
                go_wp2
                go_roundg (s.size - (j + 1))
                case measure => have := HJL.out; omega
                case rel =>
                  refine ⟨j + 1, by go_num, by omega, by have := HJL.out; omega, rfl, ?_, rfl⟩
                  intro q h1 h2
                  by_cases e : q = j
                  · subst e; have := HCc.out; omega
                  · exact HQ.out q h1 (by omega)
            · have hjs : j = s.size := by omega
              have q1 : ¬ (j : Int) < (s.size : Int) := by omega
              have HJS : Hid (j = s.size) := hjs
              clear hjs
              go_wp2
              have hjs := HJS.out
              have hl := line_at s i j hij (by omega) HQ.out (Or.inl hjs)
              have hp := HP.out
              have hll := HLT.out
              obtain ⟨g, rfl⟩ : ∃ g, f = g + 1 := ⟨f - 1, by omega⟩
              go_roundg (s.size - j)
              case measure => omega
              case rel => exact ⟨j, g, _, tl, rfl, by omega, rfl, by omega, by rw [← hl]; exact HC, HM.out⟩
      · as_aux_lemma =>
          have HN2 : Hid (¬ (bt s i 0 = 47 ∧ i + 1 < s.size ∧ bt s i 1 = 47)) := c2
          have HSK : Hid (skipN s i = 0) := by show skipN s i = 0; unfold skipN; rw [if_neg HN1.out, if_neg c2]
          have HBB : Hid (((bt s i 0 : Nat) : Int) = b) := hb
          have b0 : 0 ≤ b := by omega
          have b1 : b < 256 := by have := bt_lt s i 0; omega
          have hw1 : IntKind.i64.wrap ((i : Int) + 1) = ((i + 1 : Nat) : Int) := by rw [wr64 _ (by omega) (by omega)]; omega
          clear c2 hb M
          go_upto_region 9 with fail
          go_cut [49] (fun tv wx => tv = .bool false ∧ wx = wr)
          case first =>
            as_aux_lemma =>
              have hb := HBB.out
              have c2 := HN2.out
              by_cases z : b = 47
              · subst z
                by_cases j : i + 1 < s.size
                · have j1 : ((i + 1 : Nat) : Int) < (s.size : Int) := by omega
                  have j0 : (0 : Int) ≤ ((i + 1 : Nat) : Int) := by omega
                  obtain ⟨c, hc⟩ : ∃ c : Int, ((bt s i 1 : Nat) : Int) = c := ⟨_, rfl⟩
                  have hB1 : (((s[i + 1]'j).toNat : Nat) : Int) = c := by rw [← hc]; exact congrArg Int.ofNat (bt_eq s i 1 j)
                  have z1 : (c == 47) = false := by simp; omega
                  clear hb c2 hc
                  go_wp2_with fail
                  go_meet
                  exact ⟨rfl, rfl⟩
                · have j1 : ¬ ((i + 1 : Nat) : Int) < (s.size : Int) := by omega
                  clear hb c2
                  go_wp2_with fail
                  go_meet
                  exact ⟨rfl, rfl⟩
              · have z1 : (b == 47) = false := by simpa using z
                clear hb c2
                go_wp2_with fail
                go_meet
                exact ⟨rfl, rfl⟩
          case rest =>
            obtain ⟨rfl, hwc⟩ := hcut
            rw [hwc]
            clear hwc
            obtain ⟨DB, hD⟩ : ∃ DB, digB b = DB := ⟨_, rfl⟩
            have HD : Hid (digB ((bt s i 0 : Nat) : Int) = DB) := by rw [HBB.out]; exact hD
            have H54 : Hid (∀ wx : World, Calls Tryd.prog 54 #[.int .u8 b] wx fun r w' => r = .returned (.bool DB) ∧ w' = wx) := fun wx => by rw [← hD]; exact digit22 b wx b0 b1
            clear hD
            go_upto_if 66 with (go_at_call 54; refine (H54.out _).mono ?_; rintro e w2 ⟨rfl, hw⟩; subst w2)
            have T0 := Tok18.start HM.out i
            obtain ⟨oo, ho⟩ : ∃ oo, wr.heap.size = oo := ⟨_, rfl⟩
            obtain ⟨W0, hW0⟩ : ∃ W0, wr.alloc (.cells #[.int .i64 0, .string ⟨#[]⟩, .int .i64 (i : Nat)] 88) = W0 := ⟨_, rfl⟩
            rw [hW0, ho] at T0
            rw [hW0, ho]
            clear hW0 ho H54
            obtain ⟨x, hx⟩ : ∃ x, s.extract i s.size = x := ⟨_, rfl⟩
            obtain ⟨n, hn⟩ : ∃ n, tL x = n := ⟨_, rfl⟩
            obtain ⟨cd, hcd⟩ : ∃ cd, tC x = cd := ⟨_, rfl⟩
            obtain ⟨kx, hkx⟩ : ∃ kx, tK x = kx := ⟨_, rfl⟩
            have tle := tL_le x
            rw [← hx, rest_size s i (by omega), hx, hn] at tle
            have HX : Hid (s.extract i s.size = x ∧ tL x = n ∧ tC x = cd ∧ tK x = kx) := ⟨hx, hn, hcd, hkx⟩
            have TP : Hid (cd = 0 → 0 < n) := fun h => by rw [← hn]; exact tL_pos x (by rw [← hx, rest_size s i (by omega)]; omega) (by rw [hcd, h])
            have HT0 : Hid (Tok18 w (.slice po tl.length cap) tl oo 0 ⟨#[]⟩ i W0) := T0
            obtain ⟨q, hq⟩ : ∃ q, i + n = q := ⟨_, rfl⟩
            have HQ : Hid (i + n = q) := hq
            have q0 : (i : Int) ≤ (q : Int) := by omega
            have q1 : (q : Int) ≤ (s.size : Int) := by omega
            clear hx hn hcd hkx hq tle T0 n32 n9 n10 hw1
            go_cut [7, 8, 9] (fun c e r wx => c = .int .i64 cd ∧ e = .int .i64 (q : Nat) ∧ ∃ k, Hid (cd = 0 → k = kx) ∧ Tok18 w (.slice po tl.length cap) tl oo k (s.extract i q) i wx)
            case first =>
              obtain ⟨o0, o1, o2⟩ := HT0.out.cells
              have fz := HT0.out.free
              have f0 := fz 0
              have f1 := fz 1
              cases DB
              · as_aux_lemma =>
                  have hD := HD.out
                  obtain ⟨hx, hn, hcd, hkx⟩ := HX.out
                  obtain ⟨m, hm⟩ : ∃ m, (nameRun x x.size 0 0).1 = m := ⟨_, rfl⟩
                  obtain ⟨r, hr⟩ : ∃ r, (nameRun x x.size 0 0).2 = r := ⟨_, rfl⟩
                  have H58 : Hid (∀ wx : World, Calls Tryd.prog 58 #[.string s, .int .i64 i] wx fun rr w' => rr = .returned (.tuple #[.int .i64 ((i + m : Nat) : Int), .int .i64 (r : Nat)]) ∧ w' = wx) := fun wx => by
                    have e := runAt s i wx (by omega) (by omega)
                    rw [run_here s i (by omega), hx] at e
                    simp only [hm, hr] at e
                    exact e
                  by_cases m0 : m = 0
                  · as_aux_lemma =>
                      obtain ⟨t1, t2, t3⟩ := t_sign (s := s) (i := i) (by omega) hD (by rw [hx, hm]; exact m0)
                      have sb := sign_both s i (by omega)
                      rw [hx] at t1 t2 t3 sb
                      rw [hn] at t1
                      rw [← t1] at t2 t3 sb
                      rw [hkx] at t2
                      rw [hcd] at t3
                      have hr0 : r = 0 := by
                        have e := run_zero x x.size 0 0 (by omega) (by rw [hm, m0])
                        rw [hr] at e; exact e
                      have HNW : Hid (n ≠ 0 → isIn (textAt wordsL) (s.extract i q) 13 = false) := fun h => by
                        have e := sign_text s i (by rw [sb]; exact h)
                        rw [sb, HQ.out] at e
                        exact e
                      have H59 : Hid (∀ wx : World, Calls Tryd.prog 59 #[.string s, .int .i64 i] wx fun rr w' => rr = .returned (.string (s.extract i q)) ∧ Below wx.heap.size wx w') := fun wx => by
                        have e := sign59 s i wx (by omega) (by omega)
                        rw [sb, HQ.out] at e
                        exact e
                      have ysz : (s.extract i q).size = n := by have := HQ.out; simp; omega
                      have ew : (i : Int) + (n : Int) = (q : Int) := by have := HQ.out; omega
                      subst m0
                      subst hr0
                      have HT23 : Hid (kx = (if n = 0 then 0 else 4) ∧ cd = if n = 0 then 2 else 0) := ⟨t2, t3⟩
                      clear hD hx hn hcd hkx hm hr t1 t2 t3 sb fz
                      go_upto_region 27 with (go_at_call 58; refine (H58.out _).mono ?_; rintro e w2 ⟨rfl, hw⟩; subst w2)
                      have T1 := HT0.out.kind 1
                      obtain ⟨W1, hW1⟩ : ∃ W1, W0.setCell ⟨oo, 0, none⟩ (.int .i64 1) = W1 := ⟨_, rfl⟩
                      rw [hW1] at T1 ⊢
                      clear hW1
                      obtain ⟨a0, a1, a2⟩ := T1.cells
                      have fz := T1.free
                      have g0 := fz 0
                      have g1 := fz 1
                      have HT1 : Hid (Tok18 w (.slice po tl.length cap) tl oo 1 ⟨#[]⟩ i W1) := T1
                      clear T1 fz
                      have HT1a := HT1
                      clear o0 o1 o2 f0 f1
                      go_upto_region 29 with (go_at_call 59; refine (H59.out _).mono ?_; rintro e w2 ⟨rfl, hw⟩)
                      have HT1b : Hid (Tok18 w (.slice po tl.length cap) tl oo 1 ⟨#[]⟩ i w2) := HT1.out.next hw
                      clear a0 a1 a2 g0 g1 hw HT1 HT1a
                      obtain ⟨a0, a1, a2⟩ := HT1b.out.cells
                      have g0 := HT1b.out.free 0
                      go_upto_region 30 with fail
                      clear a0 a1 a2 g0
                      have T1 := HT1b.out.kind 4
                      obtain ⟨W1, hW1⟩ : ∃ W1, w2.setCell ⟨oo, 0, none⟩ (.int .i64 4) = W1 := ⟨_, rfl⟩
                      rw [hW1] at T1 ⊢
                      clear hW1
                      obtain ⟨a0, a1, a2⟩ := T1.cells
                      have fz := T1.free
                      have g0 := fz 0
                      have g1 := fz 1
                      have HT1 : Hid (Tok18 w (.slice po tl.length cap) tl oo 4 ⟨#[]⟩ i W1) := T1
                      clear T1 fz
                      clear ysz
                      by_cases n0 : n = 0
                      · have hqi : q = i := by have := HQ.out; omega
                        have e1 : cd = 2 := by rw [HT23.out.2, if_pos n0]
                        subst e1
                        subst hqi
                        clear n0 ew
                        go_upto_region 31 with fail
                        have T2 := HT1.out.text ByteArray.empty
                        have ee : s.extract q q = ByteArray.empty := by simp
                        have HEE : Hid (s.extract q q = ByteArray.empty) := ee
                        clear ee
                        obtain ⟨W2, hW2⟩ : ∃ W2, W1.setCell ⟨oo, 1, none⟩ (.string ByteArray.empty) = W2 := ⟨_, rfl⟩
                        (try simp only [Int.toNat_natCast])
                        rw [hW2] at T2 ⊢
                        have HT2 : Hid (Tok18 w (.slice po tl.length cap) tl oo 4 ByteArray.empty q W2) := T2
                        clear T2 hW2 a0 a1 a2 g0 g1
                        go_wp2
                        go_meet
                        exact ⟨rfl, rfl, 4, fun h => absurd h (by decide), by rw [HEE.out]; exact HT2.out⟩
                      · have e1 : cd = 0 := by rw [HT23.out.2, if_neg n0]
                        have HKX : Hid (kx = 4) := by show kx = 4; rw [HT23.out.1, if_neg n0]
                        have HNW : Hid (isIn (textAt wordsL) (s.extract i q) 13 = false) := HNW.out n0
                        have hqi : ((q : Int) == (i : Int)) = false := by have := HQ.out; simp; omega
                        subst e1
                        clear n0 ew
                        go_upto_region 35 with fail
                        have T2 := HT1.out.text (s.extract i q)
                        obtain ⟨W2, hW2⟩ : ∃ W2, W1.setCell ⟨oo, 1, none⟩ (.string (s.extract i q)) = W2 := ⟨_, rfl⟩
                        (try simp only [Int.toNat_natCast])
                        rw [hW2] at T2 ⊢
                        clear hW2 a0 a1 a2 g0 g1
                        obtain ⟨y, hy⟩ : ∃ y, s.extract i q = y := ⟨_, rfl⟩
                        have HY : Hid (s.extract i q = y) := hy
                        rw [hy] at T2
                        obtain ⟨d0, d1, d2⟩ := T2.cells
                        have HT2 : Hid (Tok18 w (.slice po tl.length cap) tl oo 4 y i W2) := T2
                        obtain ⟨I, hI⟩ : ∃ I, isIn (textAt wordsL) y 13 = I := ⟨_, rfl⟩
                        have HI : Hid (isIn (textAt wordsL) (s.extract i q) 13 = I) := by rw [hy]; exact hI
                        have H61 : Hid (∀ wx : World, wx.heap.size = W2.heap.size → Tok18 w (.slice po tl.length cap) tl oo 4 y i wx → Calls Tryd.prog 61 #[] wx fun r w' => r = .returned (.slice (some ⟨W2.heap.size, 0, none⟩) 13 13) ∧ Hid (∀ i, i < 13 → w'.cell? ⟨W2.heap.size, i, none⟩ = some (.string (textAt wordsL i))) ∧ w'.cell? ⟨oo, 1, none⟩ = some (.string y) ∧ Hid (Tok18 w (.slice po tl.length cap) tl oo 4 y i w')) := fun wx hz ht => by
                          refine (lit6 wx).mono ?_
                          rintro e w' ⟨he, S, B⟩
                          rw [hz] at he S
                          have t2 := ht.next B
                          exact ⟨he, S.cell, t2.cells.2.1, t2⟩
                        have H60 : Hid (∀ (w1 : World), (∀ i, i < 13 → w1.cell? ⟨W2.heap.size, i, none⟩ = some (.string (textAt wordsL i))) → Calls Tryd.prog 60 #[.slice (some ⟨W2.heap.size, 0, none⟩) 13 13, .string y] w1 fun r w' => r = .returned (.bool I) ∧ w' = w1) := fun w1 qq => by
                          rw [← hI]; exact in17 13 _ 13 (textAt wordsL) y w1 (by omega) qq
                        clear T2 hI hy
                        go_cut [148] (fun tv wx => tv = .bool I ∧ Tok18 w (.slice po tl.length cap) tl oo 4 (s.extract i q) i wx)
                        case first =>
                          go_region_with (first | (go_at_call 61; refine (H61.out _ (by first | rfl | simp) (by first | exact HT2.out | exact HT2.out.drew)).mono ?_; rintro e w1 ⟨rfl, S1, z1, T5⟩) | (go_at_call 60; refine (H60.out _ S1.out).mono ?_; rintro e w' ⟨rfl, hw⟩; subst w'))
                          all_goals go_wp2_with fail
                          all_goals go_meet
                          all_goals exact ⟨rfl, by rw [HY.out]; exact T5.out⟩
                        case rest =>
                          obtain ⟨rfl, T6⟩ := hcut
                          clear d0 d1 d2
                          have HT6 : Hid (Tok18 w (.slice po tl.length cap) tl oo 4 (s.extract i q) i wc) := T6
                          obtain ⟨d0, d1, d2⟩ := T6.cells
                          have g0 := T6.free 0
                          clear T6
                          obtain rfl : I = false := by rw [← HI.out]; exact HNW.out
                          go_wp2
                          go_meet
                          exact ⟨rfl, rfl, 4, fun _ => HKX.out.symm, HT6.out⟩
                  · as_aux_lemma =>
                      obtain ⟨t1, t2, t3⟩ := t_name (s := s) (i := i) (by omega) hD (by rw [hx, hm]; exact m0)
                      rw [hx] at t1 t2 t3
                      rw [hn, hm] at t1
                      rw [hkx] at t2
                      rw [hcd] at t3
                      unfold nameKd at t2
                      unfold nameCd at t3
                      rw [hr] at t2 t3
                      rw [hm] at t2
                      have hqm : i + m = q := by rw [← t1]; exact HQ.out
                      have ex : x.extract 0 m = s.extract i q := by rw [← hx, cut_rest s i m (by omega), hqm]
                      rw [ex] at t2
                      have hqi : ((q : Int) == (i : Int)) = false := by simp; omega
                      rw [hqm] at H58
                      by_cases r20 : 20 < r
                      · as_aux_lemma =>
                          have r21 : (20 : Int) < (r : Int) := by omega
                          rw [if_pos r20] at t2 t3
                          subst t3
                          clear hD hx hn hcd hkx hm hr t1 t2 fz ex r20 hqm m0
                          go_upto_region 27 with (go_at_call 58; refine (H58.out _).mono ?_; rintro e w2 ⟨rfl, hw⟩; subst w2)
                          have T1 := HT0.out.kind 1
                          obtain ⟨W1, hW1⟩ : ∃ W1, W0.setCell ⟨oo, 0, none⟩ (.int .i64 1) = W1 := ⟨_, rfl⟩
                          rw [hW1] at T1 ⊢
                          clear hW1
                          obtain ⟨a0, a1, a2⟩ := T1.cells
                          have fz := T1.free
                          have g0 := fz 0
                          have g1 := fz 1
                          have HT1 : Hid (Tok18 w (.slice po tl.length cap) tl oo 1 ⟨#[]⟩ i W1) := T1
                          clear T1 fz
                          clear o0 o1 o2 f0 f1
                          go_upto_region 31 with fail
                          have T2 := HT1.out.text (s.extract i q)
                          obtain ⟨W2, hW2⟩ : ∃ W2, W1.setCell ⟨oo, 1, none⟩ (.string (s.extract i q)) = W2 := ⟨_, rfl⟩
                          (try simp only [Int.toNat_natCast])
                          rw [hW2] at T2 ⊢
                          have HT2 : Hid (Tok18 w (.slice po tl.length cap) tl oo 1 (s.extract i q) i W2) := T2
                          clear T2 hW2 a0 a1 a2 g0 g1
                          go_wp2
                          go_meet
                          exact ⟨rfl, rfl, 1, fun h => absurd h (by decide), HT2.out⟩
                      · as_aux_lemma =>
                          have r21 : ¬ (20 : Int) < (r : Int) := by omega
                          rw [if_neg r20] at t2 t3
                          subst t3
                          have HKX : Hid (kx = if isIn (textAt wordsL) (s.extract i q) 13 = true then 5 else 1) := t2
                          clear hD hx hn hcd hkx hm hr t1 t2 fz ex r20 hqm m0
                          go_upto_region 27 with (go_at_call 58; refine (H58.out _).mono ?_; rintro e w2 ⟨rfl, hw⟩; subst w2)
                          have T1 := HT0.out.kind 1
                          obtain ⟨W1, hW1⟩ : ∃ W1, W0.setCell ⟨oo, 0, none⟩ (.int .i64 1) = W1 := ⟨_, rfl⟩
                          rw [hW1] at T1 ⊢
                          clear hW1
                          obtain ⟨a0, a1, a2⟩ := T1.cells
                          have fz := T1.free
                          have g0 := fz 0
                          have g1 := fz 1
                          have HT1 : Hid (Tok18 w (.slice po tl.length cap) tl oo 1 ⟨#[]⟩ i W1) := T1
                          clear T1 fz
                          clear o0 o1 o2 f0 f1
                          go_upto_region 35 with fail
                          have T2 := HT1.out.text (s.extract i q)
                          obtain ⟨W2, hW2⟩ : ∃ W2, W1.setCell ⟨oo, 1, none⟩ (.string (s.extract i q)) = W2 := ⟨_, rfl⟩
                          (try simp only [Int.toNat_natCast])
                          rw [hW2] at T2 ⊢
                          clear hW2 a0 a1 a2 g0 g1
                          obtain ⟨y, hy⟩ : ∃ y, s.extract i q = y := ⟨_, rfl⟩
                          have HY : Hid (s.extract i q = y) := hy
                          rw [hy] at T2
                          obtain ⟨d0, d1, d2⟩ := T2.cells
                          have HT2 : Hid (Tok18 w (.slice po tl.length cap) tl oo 1 y i W2) := T2
                          obtain ⟨I, hI⟩ : ∃ I, isIn (textAt wordsL) y 13 = I := ⟨_, rfl⟩
                          have HI : Hid (isIn (textAt wordsL) (s.extract i q) 13 = I) := by rw [hy]; exact hI
                          have H61 : Hid (∀ wx : World, wx.heap.size = W2.heap.size → Tok18 w (.slice po tl.length cap) tl oo 1 y i wx → Calls Tryd.prog 61 #[] wx fun r w' => r = .returned (.slice (some ⟨W2.heap.size, 0, none⟩) 13 13) ∧ Hid (∀ i, i < 13 → w'.cell? ⟨W2.heap.size, i, none⟩ = some (.string (textAt wordsL i))) ∧ w'.cell? ⟨oo, 1, none⟩ = some (.string y) ∧ Hid (Tok18 w (.slice po tl.length cap) tl oo 1 y i w')) := fun wx hz ht => by
                            refine (lit6 wx).mono ?_
                            rintro e w' ⟨he, S, B⟩
                            rw [hz] at he S
                            have t2 := ht.next B
                            exact ⟨he, S.cell, t2.cells.2.1, t2⟩
                          have H60 : Hid (∀ (w1 : World), (∀ i, i < 13 → w1.cell? ⟨W2.heap.size, i, none⟩ = some (.string (textAt wordsL i))) → Calls Tryd.prog 60 #[.slice (some ⟨W2.heap.size, 0, none⟩) 13 13, .string y] w1 fun r w' => r = .returned (.bool I) ∧ w' = w1) := fun w1 qq => by
                            rw [← hI]; exact in17 13 _ 13 (textAt wordsL) y w1 (by omega) qq
                          clear T2 hI hy
                          go_cut [148] (fun tv wx => tv = .bool I ∧ Tok18 w (.slice po tl.length cap) tl oo 1 (s.extract i q) i wx)
                          case first =>
                            go_region_with (first | (go_at_call 61; refine (H61.out _ (by first | rfl | simp) (by first | exact HT2.out | exact HT2.out.drew)).mono ?_; rintro e w1 ⟨rfl, S1, z1, T5⟩) | (go_at_call 60; refine (H60.out _ S1.out).mono ?_; rintro e w' ⟨rfl, hw⟩; subst w'))
                            all_goals go_wp2_with fail
                            all_goals go_meet
                            all_goals exact ⟨rfl, by rw [HY.out]; exact T5.out⟩
                          case rest =>
                            obtain ⟨rfl, T6⟩ := hcut
                            clear d0 d1 d2
                            have HT6 : Hid (Tok18 w (.slice po tl.length cap) tl oo 1 (s.extract i q) i wc) := T6
                            obtain ⟨d0, d1, d2⟩ := T6.cells
                            have g0 := T6.free 0
                            clear T6
                            cases I
                            · go_wp2
                              go_meet
                              exact ⟨rfl, rfl, 1, fun _ => by rw [HKX.out, if_neg (by rw [HI.out]; decide)], HT6.out⟩
                            · go_wp2
                              go_meet
                              exact ⟨rfl, rfl, 5, fun _ => by rw [HKX.out, if_pos HI.out], HT6.out.kind 5⟩
              · as_aux_lemma =>
                  have hD := HD.out
                  obtain ⟨hx, hn, hcd, hkx⟩ := HX.out
                  obtain ⟨t1, t2, t3⟩ := t_dig (s := s) (i := i) (by omega) hD
                  rw [hx] at t1 t2 t3
                  obtain ⟨j, hj⟩ : ∃ j, i + dlen (s.data.toList.drop i) = j := ⟨_, rfl⟩
                  have nF := numF_at s i j (by omega) hj
                  have nL := numL_at s i j (by omega) hj
                  rw [hx] at nF nL
                  rw [← t1, hn, HQ.out] at nL
                  have jle : j ≤ s.size := by
                    have e := dlen_le (s.data.toList.drop i)
                    have ls : s.data.toList.length = s.size := by simp
                    rw [List.length_drop, ls] at e
                    omega
                  have H55 : Hid (∀ wx : World, Calls Tryd.prog 55 #[.string s, .int .i64 i] wx fun r w' => r = .returned (.int .i64 (j : Nat)) ∧ w' = wx) := fun wx => by
                    have e := digits55 s i wx (by omega) (by omega)
                    rw [hj] at e
                    exact e
                  obtain ⟨F, hF⟩ : ∃ F, numF x = F := ⟨_, rfl⟩
                  have HF : Hid (numF x = F) := hF
                  have HNF : Hid (F = true ↔ (j + 1 < s.size ∧ bt s j 0 = 46 ∧ digB ((bt s (j + 1) 0 : Nat) : Int) = true)) := by rw [← hF]; exact nF
                  have HNL : Hid (q = if F = true then j + 1 + dlen (s.data.toList.drop (j + 1)) else j) := by rw [← hF]; exact nL
                  have HCD : Hid (cd = if goodK (if F = true then 3 else 2) (s.extract i q) = true then 0 else 4) := by
                    have e : (if F = true then (3 : Int) else 2) = numK x := by rw [← hF]; rfl
                    have e2 : s.extract i q = x.extract 0 (numL x) := by rw [← t1, hn, ← HQ.out, ← hx, cut_rest s i n (by have := HQ.out; omega)]
                    show cd = _
                    rw [e, e2, ← hcd, t3]
                    rfl
                  have HKX : Hid (kx = if F = true then 3 else 2) := by show kx = _; rw [← hkx, t2, ← hF]; rfl
                  have jj0 : (0 : Int) ≤ (j : Int) := by omega
                  have jj1 : (j : Int) ≤ (s.size : Int) := by omega
                  have hw2 : IntKind.i64.wrap ((j : Int) + 1) = ((j + 1 : Nat) : Int) := by rw [wr64 _ (by omega) (by omega)]; omega
                  clear hD hx hn hcd hkx t1 t2 t3 hj nF nL hF fz
                  have T1 := HT0.out.kind 2
                  obtain ⟨a0, a1, a2⟩ := T1.cells
                  have fz := T1.free
                  have g0 := fz 0
                  have g1 := fz 1
                  have HT1 : Hid (Tok18 w (.slice po tl.length cap) tl oo 2 ⟨#[]⟩ i (W0.setCell ⟨oo, 0, none⟩ (.int .i64 2))) := T1
                  clear T1 fz
                  go_upto_region 18 with (go_at_call 55; refine (H55.out _).mono ?_; rintro e w2 ⟨rfl, hw⟩; subst w2)
                  go_cut [88] (fun tv wx => tv = .bool F ∧ Tok18 w (.slice po tl.length cap) tl oo 2 ⟨#[]⟩ i wx)
                  case first =>
                    as_aux_lemma =>
                      have nf := HNF.out
                      by_cases c1 : j + 1 < s.size
                      · have d1 : ((j + 1 : Nat) : Int) < (s.size : Int) := by omega
                        have d0 : (0 : Int) ≤ ((j + 1 : Nat) : Int) := by omega
                        have d2 : (j : Int) < (s.size : Int) := by omega
                        have c0 : j < s.size := by omega
                        obtain ⟨e, he⟩ : ∃ e : Int, ((bt s j 0 : Nat) : Int) = e := ⟨_, rfl⟩
                        have hE : (((s[j]'c0).toNat : Nat) : Int) = e := by rw [← he]; exact congrArg Int.ofNat (bt_eq s j 0 c0)
                        by_cases c2 : e = 46
                        · obtain ⟨g, hg⟩ : ∃ g : Int, ((bt s (j + 1) 0 : Nat) : Int) = g := ⟨_, rfl⟩
                          have hG : (((s[j + 1]'c1).toNat : Nat) : Int) = g := by rw [← hg]; exact congrArg Int.ofNat (bt_eq s (j + 1) 0 c1)
                          have h54 : Hid (∀ wx : World, Calls Tryd.prog 54 #[.int .u8 g] wx fun r w' => r = .returned (.bool F) ∧ w' = wx) := fun wx => by
                            have e2 := digit22 g wx (by omega) (by have := bt_lt s (j + 1) 0; omega)
                            have e3 : digB g = F := by
                              rw [hg] at nf
                              cases hd : digB g
                              · cases F
                                · rfl
                                · have := (nf.1 rfl).2.2; rw [hd] at this; exact this.symm ▸ rfl
                              · exact (nf.2 ⟨c1, by omega, hd⟩).symm
                            rw [e3] at e2
                            exact e2
                          subst c2
                          clear nf he hg
                          go_wp2_with (go_at_call 54; refine (h54.out _).mono ?_; rintro e w2 ⟨rfl, hw⟩; subst w2)
                          go_meet
                          exact ⟨rfl, HT1.out⟩
                        · have z1 : (e == 46) = false := by simpa using c2
                          obtain rfl : F = false := by
                            cases F
                            · rfl
                            · have := (nf.1 rfl).2.1; omega
                          clear nf he
                          go_wp2_with fail
                          go_meet
                          exact ⟨rfl, HT1.out⟩
                      · have d1 : ¬ ((j + 1 : Nat) : Int) < (s.size : Int) := by omega
                        obtain rfl : F = false := by
                          cases F
                          · rfl
                          · exact absurd (nf.1 rfl).1 c1
                        clear nf
                        go_wp2_with fail
                        go_meet
                        exact ⟨rfl, HT1.out⟩
                  case rest =>
                    obtain ⟨rfl, T1⟩ := hcut
                    clear a0 a1 a2 g0 g1 HT1 o0 o1 o2 f0 f1 HT0
                    obtain ⟨a0, a1, a2⟩ := T1.cells
                    have fz := T1.free
                    have g0 := fz 0
                    have g1 := fz 1
                    have HT1 : Hid (Tok18 w (.slice po tl.length cap) tl oo 2 ⟨#[]⟩ i wc) := T1
                    clear T1 fz
                    cases F
                    · as_aux_lemma =>
                        have HQJ : Hid (q = j) := by
                          show q = j
                          have := HNL.out
                          simpa using this
                        have eq := HQJ.out
                        subst eq
                        go_upto_region 22 with fail
                        have T2 := HT1.out.text (s.extract i q)
                        obtain ⟨W2, hW2⟩ : ∃ W2, wc.setCell ⟨oo, 1, none⟩ (.string (s.extract i q)) = W2 := ⟨_, rfl⟩
                        (try simp only [Int.toNat_natCast])
                        rw [hW2] at T2 ⊢
                        clear hW2 a0 a1 a2 g0 g1
                        obtain ⟨y, hy⟩ : ∃ y, s.extract i q = y := ⟨_, rfl⟩
                        have HT2 : Hid (Tok18 w (.slice po tl.length cap) tl oo 2 (s.extract i q) i W2) := T2
                        have ys : y.size ≤ 1048576 := by rw [← hy]; simp; omega
                        rw [hy] at T2
                        obtain ⟨d0, d1, d2⟩ := T2.cells
                        obtain ⟨G, hG⟩ : ∃ G, wholeS y.data.toList = G := ⟨_, rfl⟩
                        have H56 : Hid (∀ wx : World, Calls Tryd.prog 56 #[.string y] wx fun r w' => r = .returned (.bool G) ∧ w' = wx) := fun wx => by rw [← hG]; exact whole56 y wx ys
                        have HG : Hid (cd = if G = true then 0 else 4) := by
                          have e := HCD.out
                          simp only [Bool.false_eq_true, if_false] at e
                          rw [hy, goodK2, hG] at e
                          exact e
                        have HK2 : Hid (kx = 2) := by
                          show kx = 2
                          have := HKX.out
                          simpa using this
                        clear hG hy T2 ys
                        cases G
                        · have e := HG.out
                          simp only [Bool.false_eq_true, if_false] at e
                          subst e
                          go_wp2_with (go_at_call 56; refine (H56.out _).mono ?_; rintro e w2 ⟨rfl, hw⟩; subst w2)
                          go_meet
                          exact ⟨rfl, rfl, 2, fun h => absurd h (by decide), HT2.out⟩
                        · have e := HG.out
                          simp only [if_true] at e
                          subst e
                          go_wp2_with (go_at_call 56; refine (H56.out _).mono ?_; rintro e w2 ⟨rfl, hw⟩; subst w2)
                          go_meet
                          exact ⟨rfl, rfl, 2, fun _ => HK2.out.symm, HT2.out⟩
                    · as_aux_lemma =>
                        have HQJ : Hid (q = j + 1 + dlen (s.data.toList.drop (j + 1))) := by
                          show q = _
                          have := HNL.out
                          simpa using this
                        have jl := (HNF.out.1 rfl).1
                        have H552 : Hid (∀ wx : World, Calls Tryd.prog 55 #[.string s, .int .i64 ((j + 1 : Nat) : Int)] wx fun r w' => r = .returned (.int .i64 (q : Nat)) ∧ w' = wx) := fun wx => by
                          have e := digits55 s (j + 1) wx (by omega) (by omega)
                          rw [← HQJ.out] at e
                          exact e
                        clear jl
                        go_upto_region 21 with (go_at_call 55; refine (H552.out _).mono ?_; rintro e w2 ⟨rfl, hw⟩; subst w2)
                        have T3 := HT1.out.kind 3
                        obtain ⟨W1, hW1⟩ : ∃ W1, wc.setCell ⟨oo, 0, none⟩ (.int .i64 3) = W1 := ⟨_, rfl⟩
                        rw [hW1] at T3 ⊢
                        clear hW1 a0 a1 a2 g0 g1
                        obtain ⟨a0, a1, a2⟩ := T3.cells
                        have fz := T3.free
                        have g0 := fz 0
                        have g1 := fz 1
                        have HT3 : Hid (Tok18 w (.slice po tl.length cap) tl oo 3 ⟨#[]⟩ i W1) := T3
                        clear T3 fz
                        go_upto_region 22 with fail
                        have T2 := HT3.out.text (s.extract i q)
                        obtain ⟨W2, hW2⟩ : ∃ W2, W1.setCell ⟨oo, 1, none⟩ (.string (s.extract i q)) = W2 := ⟨_, rfl⟩
                        (try simp only [Int.toNat_natCast])
                        rw [hW2] at T2 ⊢
                        clear hW2 a0 a1 a2 g0 g1
                        obtain ⟨y, hy⟩ : ∃ y, s.extract i q = y := ⟨_, rfl⟩
                        have HT2 : Hid (Tok18 w (.slice po tl.length cap) tl oo 3 (s.extract i q) i W2) := T2
                        have ys : y.size ≤ 1048576 := by rw [← hy]; simp; omega
                        rw [hy] at T2
                        obtain ⟨d0, d1, d2⟩ := T2.cells
                        obtain ⟨G, hG⟩ : ∃ G, floatS y.data.toList = G := ⟨_, rfl⟩
                        have H57 : Hid (∀ wx : World, Calls Tryd.prog 57 #[.string y] wx fun r w' => r = .returned (.bool G) ∧ w' = wx) := fun wx => by rw [← hG]; exact float57 y wx ys
                        have HG : Hid (cd = if G = true then 0 else 4) := by
                          have e := HCD.out
                          simp only [if_true] at e
                          rw [hy, goodK3, hG] at e
                          exact e
                        have HK2 : Hid (kx = 3) := by
                          show kx = 3
                          have := HKX.out
                          simpa using this
                        clear hG hy T2 ys
                        cases G
                        · have e := HG.out
                          simp only [Bool.false_eq_true, if_false] at e
                          subst e
                          go_wp2_with (go_at_call 57; refine (H57.out _).mono ?_; rintro e w2 ⟨rfl, hw⟩; subst w2)
                          go_meet
                          exact ⟨rfl, rfl, 3, fun h => absurd h (by decide), HT2.out⟩
                        · have e := HG.out
                          simp only [if_true] at e
                          subst e
                          go_wp2_with (go_at_call 57; refine (H57.out _).mono ?_; rintro e w2 ⟨rfl, hw⟩; subst w2)
                          go_meet
                          exact ⟨rfl, rfl, 3, fun _ => HK2.out.symm, HT2.out⟩
            case rest =>
              obtain ⟨rfl, rfl, k, HKK, T⟩ := hcut
              have HT : Hid (Tok18 w (.slice po tl.length cap) tl oo k (s.extract i q) i wc) := T
              obtain ⟨c0, c1, c2⟩ := T.mem.rescells
              obtain ⟨o0, o1, o2⟩ := T.mem.outcells
              obtain ⟨d0, d1, d2⟩ := T.cells
              obtain ⟨fr, fo⟩ := T.mem.free
              have f00 := fr 0
              have f01 := fr 1
              have f02 := fr 2
              clear T fr fo HT0 HM
              by_cases z : cd = 0
              · as_aux_lemma =>
                  subst z
                  by_cases l4 : tl.length = 400
                  · as_aux_lemma =>
                      have l5 : (((tl.length : Nat) : Int) == 400) = true := by simp; omega
                      have HL4 : Hid (tl.length = 400) := l4
                      clear l4
                      go_wp2
                      have B1 := HT.out.mem.below
                      obtain ⟨hx, hn, hcd, hkx⟩ := HX.out
                      have hRR : R = ([], 5, i) := by rw [← HR.out]; exact scan_many HLT.out HSK.out (by rw [hx]; exact hcd) HL4.out
                      subst hRR
                      exact bodyPost_ret (v := .agg #[.slice none 0 0, .int .i64 5, .int .i64 (i : Nat)]) (by simp [results, Tryd.results18, go_sem, c0, c1, c2]) rfl ⟨_, rfl, Or.inl ⟨rfl, rfl⟩, fun g hg => by simp [Value.ownBlock] at hg, by repeat (first | (with_reducible refine Below.setCell ?_ (by first | omega | (simp; try omega)) _) | (with_reducible exact B1))⟩
                  · as_aux_lemma =>
                      have l5 : (((tl.length : Nat) : Int) == 400) = false := by simp; omega
                      have HL4 : Hid (tl.length ≠ 400) := l4
                      have l6 := HT.out.mem.most
                      obtain ⟨i88, hi88, hz0, hz1, hz2⟩ := info_parts info88
                      have HI : Hid (Tryd.prog.info? 88 = some i88 ∧ i88.zero = some (.agg #[.int .i64 0, .string ⟨#[]⟩, .int .i64 0]) ∧ i88.size = 3 ∧ i88.bytes = 32) := ⟨hi88, hz0, hz1, hz2⟩
                      have OW := HT.out.mem.own
                      clear l4 hi88 hz0 hz1 hz2
                      go_wp2_with (at_builtin; refine wpList_append_own _ rfl _ _ 34 rfl (w.heap.size + 2) 88 i88 (.agg #[.int .i64 0, .string ⟨#[]⟩, .int .i64 0]) 3 32 Tryd.underlying34 HI.out.1 HI.out.2.1 HI.out.2.2.1 HI.out.2.2.2 rfl (by decide) _ _ _ rfl (OW.alloc _) ⟨wc.heap.size, 0, none⟩ 1 1 [.int .i64 k, .string (s.extract i q), .int .i64 (i : Nat)] rfl rfl ?c1 ?c2 ?c3 ?c4 ?c5 ?_)
                      case c2 => first | exact ⟨rfl, rfl, rfl⟩ | (intro u hu; simp at hu; rcases hu with rfl | rfl | rfl <;> rfl)
                      case c3 => unfold maxLen; omega
                      case c4 => omega
                      case c5 => have := HT.out.mem.lt; simp; omega
                      intro v' w1 hown' hgrow _
                      have M3 := HT.out.mem.push (by have := HL4.out; omega) hown' hgrow
                      obtain ⟨p0, p1⟩ := HT.out.mem.grown hgrow
                      obtain ⟨po2, cap2, hv2⟩ := M3.shape
                      subst hv2
                      have HM3 : Hid (Mem18 w _ (tl ++ [(k, s.extract i q, i)]) (w1.setCell ⟨w.heap.size + 1, 0, none⟩ _)) := M3
                      clear hown' hgrow M3 OW c0 c1 c2 o0 o1 o2 d0 d1 d2 f00 f01 f02
                      go_wp2
                      have hll := HLT.out
                      have hqq := HQ.out
                      have hnp := TP.out (by first | rfl | trivial)
                      have hqs : q ≤ s.size := by omega
                      go_roundg (s.size - q)
                      case measure => omega
                      case rel =>
                        obtain ⟨hx, hn, hcd, hkx⟩ := HX.out
                        obtain ⟨g, rfl⟩ : ∃ g, f = g + 1 := ⟨f - 1, by omega⟩
                        have hR1 := HR.out
                        rw [scan_tok hll HSK.out (by rw [hx]; exact hcd) HL4.out, hx, hn, hkx, hqq, ← HKK.out (by first | rfl | trivial)] at hR1
                        have e := HM3.out
                        simp only [List.length_append, List.length_cons, List.length_nil, Nat.zero_add] at e
                        exact ⟨q, g, _, _, rfl, by omega, rfl, by omega, hR1, e⟩
              · as_aux_lemma =>
                  have z1 : (cd == 0) = false := by simpa using z
                  have HZ : Hid (¬ cd = 0) := z
                  clear o0 o1 o2 d0 d1 d2
                  go_wp2
                  have B1 := HT.out.mem.below
                  obtain ⟨hx, hn, hcd, hkx⟩ := HX.out
                  have hRR : R = ([], cd, i) := by
                    have e := scan_bad (f := f) (tl := tl) HLT.out HSK.out (by rw [hx, hcd]; exact HZ.out)
                    rw [hx, hcd] at e
                    rw [← HR.out]; exact e
                  clear HR
                  subst hRR
                  exact bodyPost_ret (v := .agg #[.slice none 0 0, .int .i64 cd, .int .i64 (i : Nat)]) (by simp [results, Tryd.results18, go_sem, c0, c1, c2]) rfl ⟨_, rfl, Or.inl ⟨rfl, rfl⟩, fun g hg => by simp [Value.ownBlock] at hg, by repeat (first | (with_reducible refine Below.setCell ?_ (by first | omega | (simp; try omega)) _) | (with_reducible exact B1))⟩
    · have hlt' : ¬ (i : Int) < (s.size : Int) := by omega
      have HE : Hid (R = (tl, 0, 0)) := by have := HR.out; rw [scan_end hlt] at this; exact this.symm
      obtain ⟨c0, c1, c2⟩ := M.rescells
      obtain ⟨o0, o1, o2⟩ := M.outcells
      obtain ⟨fr, fo⟩ := M.free
      have f00 := fr 0
      have f01 := fr 1
      have f02 := fr 2
      clear M fr fo HR
      go_wp2
      have B1 := HM.out.below
      have O1 := HM.out.own
      have hRR := HE.out
      subst hRR
      exact bodyPost_ret (v := .agg #[.slice po tl.length cap, .int .i64 0, .int .i64 0]) (by simp [results, Tryd.results18, go_sem, c0, c1, c2]) rfl ⟨_, rfl, rowv_of (ownsRow_setCell_below (ownsRow_setCell_below (ownsRow_setCell_below O1 (by simp) _) (by simp) _) (by simp) _), fun g hg => by have := (O1.lt g hg).1; omega, by repeat (first | (with_reducible refine Below.setCell ?_ (by first | omega | (simp; try omega)) _) | (with_reducible exact B1))⟩
end Go.Proofs.YtpildklndfgojaaDoor.Tk
