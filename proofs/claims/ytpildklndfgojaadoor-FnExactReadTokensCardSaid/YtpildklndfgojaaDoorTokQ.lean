/- The program's ReadTokens: its states, label by label; conditions: a text of at most 2000 bytes, the library's variables as laid. -/
import Derived.Test.YtpildklndfgojaaDoorTokK
import Derived.Deep.Cut
namespace Go.Proofs.YtpildklndfgojaaDoor.Tk
open Go.ChangeShapes Go.WideShapes Go.ChangeAt Go.RowKit
set_option linter.unusedVariables false
set_option maxHeartbeats 16000000 in
set_option maxRecDepth 100000 in
theorem read19 (s : ByteArray) (w : World) (hs : s.size ≤ 2000) (hL : Lb w) (R : List Tok × Int × Nat) (hR : scan s (s.size + 1) 0 [] = R) : Calls Tryd.prog 19 #[.string s] w fun e w' => ∃ v, e = .returned (.agg #[v, .int .i64 R.2.1, .int .i64 (R.2.2 : Nat)]) ∧ RowV w' v R.1.length (tkK R.1) (tkT R.1) (tkJ R.1) ∧ (∀ g, v.ownBlock = some g → w.heap.size ≤ g) ∧ Below w.heap.size w w' := by
  have hs' : ¬ (2000 : Int) < (s.size : Int) := by omega
  have hsz : (s.size : Int) ≤ 2000 := by omega
  have HLB : Hid (Lb w) := hL
  have H0 : Hid (scan s (s.size + 1) 0 [] = R) := hR
  clear hL hR
  go_enter Tryd.func19, Tryd.ntmps19
  go_wp2
  refine scope_labels (J19 s w R) (mu19 s) ?_ ?_ ?_
  · rintro l a wr ⟨v, tl, i, len, kind, code, _, _, h⟩
    have hl : l = 0 ∨ l = 1 ∨ l = 2 ∨ l = 3 ∨ l = 4 ∨ l = 5 ∨ l = 6 ∨ l = 7 := by
      rcases h with h | h | ⟨_, f, _, h | h | ⟨_, _, h | h | h | h⟩⟩ <;> omega
    rcases hl with rfl | rfl | rfl | rfl | rfl | rfl | rfl | rfl <;> rfl
  · have M := Mem19.start w
    go_wp2_with fail
    go_step3
    have HM : Hid (Mem19 w (.slice none 0 0) [] (w.alloc (.cells #[.slice none 0 0, .int .i64 0, .int .i64 0] 36))) := M
    have p0 : (0 : Int) ≤ (0 : Int) := by omega
    have p1 : (0 : Int) ≤ (s.size : Int) := by omega
    have HR : Hid (scan s (s.size + 1) 0 [] = R) := H0.out
    have hxs : s.size = s.size - 0 := by omega
    have e0 : s.extract 0 s.size = s := by simp
    have hl0 : s.toList.length = s.size - 0 := by rw [ByteArray.toList_eq, Array.length_toList]; exact hxs
    by_cases he : 0 < s.size
    · have hem : s.toList.isEmpty = false := by
        cases hl : s.toList with
        | nil =>
          rw [hl] at hl0
          simp only [List.length_nil] at hl0
          omega
        | cons a r => rfl
      by_cases c2 : bt s 0 0 = 47 ∧ 0 + 1 < s.size ∧ bt s 0 1 = 47
      · have HP : Hid (preB s ⟨#[47, 47]⟩ = true) := by
          have e := two_slash s 0 (by omega)
          rw [e0] at e
          rw [decide_eq_true (by omega)] at e
          exact e
        have HC2 : Hid (bt s 0 0 = 47 ∧ 0 + 1 < s.size ∧ bt s 0 1 = 47) := c2
        clear M hxs hl0 e0 c2
        go_wp2_with (go_at_call 62; refine (prefix26 _ _ _).mono ?_; rintro e w2 ⟨rfl, hw⟩; subst w2; rw [HP.out])
        go_step3
        exact ⟨_, [], 0, _, 0, 0, ⟨_, _, _, _, _, _, _, _, _, _, _, _, _, _, _, _, _, _, _, _, _, _, _, _, _, _, _, _, _, _, _, _, _, _, _, _, _, _, _, _, _, _, _, _, _, _, _, _, _, _, _, _, _, _, _, _, _, _, _, _, _, _, _, _, _, _, _, _, _, _, _, _, _, _, _, _, _, _, _, _, _, _, _, rfl⟩, HM.out, at_comment he (by omega) HR.out HC2.out _ _⟩
      · have HP : Hid (preB s ⟨#[47, 47]⟩ = false) := by
          have e := two_slash s 0 (by omega)
          rw [e0] at e
          rw [decide_eq_false (by omega)] at e
          exact e
        have HC2 : Hid (¬ (bt s 0 0 = 47 ∧ 0 + 1 < s.size ∧ bt s 0 1 = 47)) := c2
        have hx1 : (0 : Int) < (s.size : Int) := by omega
        have hx2 : 0 < s.size := by omega
        have HB : Hid ((s[0]'hx2).toNat = bt s 0 0) := by
          unfold bt
          congr 1
          exact (getElem!_pos s.data 0 hx2).symm
        have b256 : bt s 0 0 < 256 := (s.get! (0 + 0)).toNat_lt
        obtain ⟨q1, hq1⟩ : ∃ q, Lib.indexByte [32, 9, 10] (bt s 0 0).toUInt8 = q := ⟨_, rfl⟩
        obtain ⟨q2, hq2⟩ : ∃ q, Lib.indexByte [48, 49, 50, 51, 52, 53, 54, 55, 56, 57] (bt s 0 0).toUInt8 = q := ⟨_, rfl⟩
        have H1 : Hid (∀ wx : World, Calls Tryd.prog 63 #[.string ⟨#[32, 9, 10]⟩, .int .u8 (bt s 0 0 : Nat)] wx fun e w' => e = .returned (.int .i64 q1) ∧ w' = wx) := fun wx => by
          have e := Tryd.strings_IndexByte ⟨#[32, 9, 10]⟩ ((bt s 0 0 : Nat) : Int) wx
          rw [Int.toNat_natCast] at e
          rw [← hq1]; exact e
        have H2 : Hid (∀ wx : World, Calls Tryd.prog 63 #[.string ⟨#[48, 49, 50, 51, 52, 53, 54, 55, 56, 57]⟩, .int .u8 (bt s 0 0 : Nat)] wx fun e w' => e = .returned (.int .i64 q2) ∧ w' = wx) := fun wx => by
          have e := Tryd.strings_IndexByte ⟨#[48, 49, 50, 51, 52, 53, 54, 55, 56, 57]⟩ ((bt s 0 0 : Nat) : Int) wx
          rw [Int.toNat_natCast] at e
          rw [← hq2]; exact e
        have hb1 := blank_all (bt s 0 0) b256
        have hb2 := digit_all (bt s 0 0) b256
        rw [hq1] at hb1
        rw [hq2] at hb2
        clear hq1 hq2
        by_cases c1 : bt s 0 0 = 32 ∨ bt s 0 0 = 9 ∨ bt s 0 0 = 10
        · have g1 : 0 ≤ q1 := by rw [decide_eq_true c1] at hb1; exact of_decide_eq_true hb1
          have HC1 : Hid (bt s 0 0 = 32 ∨ bt s 0 0 = 9 ∨ bt s 0 0 = 10) := c1
          clear M hxs hl0 e0 c2 c1 hb1 hb2 b256
          go_wp2_with (first | (go_at_call 62; refine (prefix26 _ _ _).mono ?_; rintro e w2 ⟨rfl, hw⟩; subst w2; rw [HP.out]) | (go_at_call 63; rw [HB.out]; (with_reducible show Calls Tryd.prog 63 #[Value.string ⟨#[32, 9, 10]⟩, _] _ _); refine (H1.out _).mono ?_; rintro e w2 ⟨rfl, hw⟩; subst w2) | (go_at_call 63; rw [HB.out]; (with_reducible show Calls Tryd.prog 63 #[Value.string ⟨#[48, 49, 50, 51, 52, 53, 54, 55, 56, 57]⟩, _] _ _); refine (H2.out _).mono ?_; rintro e w2 ⟨rfl, hw⟩; subst w2))
          go_step3
          exact ⟨_, [], 0, _, 0, 0, ⟨_, _, _, _, _, _, _, _, _, _, _, _, _, _, _, _, _, _, _, _, _, _, _, _, _, _, _, _, _, _, _, _, _, _, _, _, _, _, _, _, _, _, _, _, _, _, _, _, _, _, _, _, _, _, _, _, _, _, _, _, _, _, _, _, _, _, _, _, _, _, _, _, _, _, _, _, _, _, _, _, _, _, _, rfl⟩, HM.out, at_blank he (by omega) HR.out HC1.out _ _⟩
        · have g1 : ¬ 0 ≤ q1 := by rw [decide_eq_false c1] at hb1; exact of_decide_eq_false hb1
          have HC1 : Hid (¬ (bt s 0 0 = 32 ∨ bt s 0 0 = 9 ∨ bt s 0 0 = 10)) := c1
          cases hd : digB ((bt s 0 0 : Nat) : Int)
          · have g2 : ¬ 0 ≤ q2 := by rw [hd] at hb2; exact of_decide_eq_false hb2
            have HD : Hid (digB ((bt s 0 0 : Nat) : Int) = false) := hd
            clear M hxs hl0 e0 c2 c1 hb1 hb2 b256 hd
            go_wp2_with (first | (go_at_call 62; refine (prefix26 _ _ _).mono ?_; rintro e w2 ⟨rfl, hw⟩; subst w2; rw [HP.out]) | (go_at_call 63; rw [HB.out]; (with_reducible show Calls Tryd.prog 63 #[Value.string ⟨#[32, 9, 10]⟩, _] _ _); refine (H1.out _).mono ?_; rintro e w2 ⟨rfl, hw⟩; subst w2) | (go_at_call 63; rw [HB.out]; (with_reducible show Calls Tryd.prog 63 #[Value.string ⟨#[48, 49, 50, 51, 52, 53, 54, 55, 56, 57]⟩, _] _ _); refine (H2.out _).mono ?_; rintro e w2 ⟨rfl, hw⟩; subst w2))
            go_step3
            exact ⟨_, [], 0, _, 0, 0, ⟨_, _, _, _, _, _, _, _, _, _, _, _, _, _, _, _, _, _, _, _, _, _, _, _, _, _, _, _, _, _, _, _, _, _, _, _, _, _, _, _, _, _, _, _, _, _, _, _, _, _, _, _, _, _, _, _, _, _, _, _, _, _, _, _, _, _, _, _, _, _, _, _, _, _, _, _, _, _, _, _, _, _, _, rfl⟩, HM.out, at_name he (by omega) HR.out HC1.out HC2.out HD.out _ _⟩
          · have g2 : 0 ≤ q2 := by rw [hd] at hb2; exact of_decide_eq_true hb2
            have HD : Hid (digB ((bt s 0 0 : Nat) : Int) = true) := hd
            clear M hxs hl0 e0 c2 c1 hb1 hb2 b256 hd
            go_wp2_with (first | (go_at_call 62; refine (prefix26 _ _ _).mono ?_; rintro e w2 ⟨rfl, hw⟩; subst w2; rw [HP.out]) | (go_at_call 63; rw [HB.out]; (with_reducible show Calls Tryd.prog 63 #[Value.string ⟨#[32, 9, 10]⟩, _] _ _); refine (H1.out _).mono ?_; rintro e w2 ⟨rfl, hw⟩; subst w2) | (go_at_call 63; rw [HB.out]; (with_reducible show Calls Tryd.prog 63 #[Value.string ⟨#[48, 49, 50, 51, 52, 53, 54, 55, 56, 57]⟩, _] _ _); refine (H2.out _).mono ?_; rintro e w2 ⟨rfl, hw⟩; subst w2))
            go_step3
            exact ⟨_, [], 0, _, 0, 0, ⟨_, _, _, _, _, _, _, _, _, _, _, _, _, _, _, _, _, _, _, _, _, _, _, _, _, _, _, _, _, _, _, _, _, _, _, _, _, _, _, _, _, _, _, _, _, _, _, _, _, _, _, _, _, _, _, _, _, _, _, _, _, _, _, _, _, _, _, _, _, _, _, _, _, _, _, _, _, _, _, _, _, _, _, rfl⟩, HM.out, at_number he (by omega) HR.out HC1.out HC2.out HD.out _ _⟩
    · have hem : s.toList.isEmpty = true := by
        have : s.toList = [] := List.eq_nil_of_length_eq_zero (by omega)
        rw [this]; rfl
      have HE : Hid (R = (([] : List Tok), 0, 0)) := by have := HR.out; rw [scan_end he] at this; exact this.symm
      obtain ⟨c0, c1, c2⟩ := M.cells
      have f00 := M.free 0
      have f01 := M.free 1
      have f02 := M.free 2
      clear M hxs hl0 e0
      go_wp2_with fail
      rw [jumps_ret]
      have B1 := HM.out.below
      have O1 := HM.out.own
      have hRR := HE.out
      clear hem
      clear H0 HR
      subst hRR
      exact bodyPost_ret (v := .agg #[.slice none 0 0, .int .i64 0, .int .i64 0]) (by simp [results, Tryd.results19, go_sem, c0, c1, c2]) rfl ⟨_, rfl, rowv_of O1, fun g hg => by have := (O1.lt g hg).1; omega, by repeat (first | (with_reducible refine Below.setCell ?_ (by first | omega | (simp; try omega)) _) | (with_reducible exact B1))⟩
  · rintro l a wr ⟨v, tl, i, len, kind, code, hfr, M, h⟩
    unfold fr19 at hfr
    obtain ⟨u8, u9, u10, u11, u12, u13, u14, u15, u16, u17, u18, u19, u20, u21, u22, u23, u24, u25, u26, u27, u28, u29, u30, u31, u32, u33, u34, u35, u36, u37, u38, u39, u40, u41, u42, u43, u44, u45, u46, u47, u48, u49, u50, u51, u52, u53, u54, u55, u56, u57, u58, u59, u60, u61, u62, u63, u64, u65, u66, u67, u68, u69, u70, u71, u72, u73, u74, u75, u76, u77, u78, u79, u80, u81, u82, u83, u84, u85, u86, u87, u88, u89, u90, rfl⟩ := hfr
    rcases h with ⟨rfl, h⟩ | ⟨rfl, c0, L, f, rfl, hL1, hL2, h⟩ | ⟨hi, f, hf, ⟨rfl, c0, lp, h⟩ | ⟨rfl, c0, h⟩ | ⟨hsc, hsk, ⟨rfl, c0, h⟩ | ⟨rfl, c0, h⟩ | ⟨rfl, h, hn⟩ | ⟨rfl, rfl, rfl, rfl⟩⟩⟩
    · have HM : Hid (Mem19 w v tl wr) := M
      obtain ⟨c0, c1, c2⟩ := M.cells
      have f00 := M.free 0
      have f01 := M.free 1
      have f02 := M.free 2
      have HR : Hid (R = ([], code, i)) := h
      clear h M
      simp only [behind, findLabel, Option.getD]
      go_wp2
      rw [jumps_ret]
      have B1 := HM.out.below
      have hRR := HR.out
      clear H0
      subst hRR
      exact bodyPost_ret (v := .agg #[.slice none 0 0, .int .i64 code, .int .i64 (i : Nat)]) (by simp [results, Tryd.results19, go_sem, c0, c1, c2]) rfl ⟨_, rfl, Or.inl ⟨rfl, rfl⟩, fun g hg => by simp [Value.ownBlock] at hg, by repeat (first | (with_reducible refine Below.setCell ?_ (by first | omega | (simp; try omega)) _) | (with_reducible exact B1))⟩
    · simp only [behind, findLabel, Option.getD]
      subst c0
      have HM : Hid (Mem19 w v tl wr) := M
      obtain ⟨p, hp⟩ : ∃ p, i + L = p := ⟨_, rfl⟩
      rw [hp] at h hL1 hL2
      have ew : (i : Int) + (L : Int) = (p : Int) := by omega
      have p0 : (0 : Int) ≤ (p : Int) := by omega
      have p1 : (p : Int) ≤ (s.size : Int) := by omega
      have HR : Hid (scan s (f + 1) p tl = R) := h
      have hlv : ∃ po cap, v = .slice po tl.length cap := by
        rcases M.own.2 with ⟨h1, h2⟩ | ⟨g, cap, cur, h1, _⟩
        · exact ⟨none, 0, by rw [h1, h2]⟩
        · exact ⟨_, _, h1⟩
      obtain ⟨po, cap, rfl⟩ := hlv
      have hxs : (s.extract p s.size).size = s.size - p := rest_size s p (by omega)
      have hl0 : (s.extract p s.size).toList.length = s.size - p := by rw [ByteArray.toList_eq, Array.length_toList]; exact hxs
      clear h hp
      by_cases he : p < s.size
      · have hem : (s.extract p s.size).toList.isEmpty = false := by
          cases hl : (s.extract p s.size).toList with
          | nil =>
            rw [hl] at hl0
            simp only [List.length_nil] at hl0
            omega
          | cons a r => rfl
        by_cases c2 : bt s p 0 = 47 ∧ p + 1 < s.size ∧ bt s p 1 = 47
        · have HP : Hid (preB (s.extract p s.size) ⟨#[47, 47]⟩ = true) := by
            have e := two_slash s p (by omega)
            rw [decide_eq_true (by omega)] at e
            exact e
          have HC2 : Hid (bt s p 0 = 47 ∧ p + 1 < s.size ∧ bt s p 1 = 47) := c2
          clear M hxs hl0 c2
          go_wp2_with (go_at_call 62; refine (prefix26 _ _ _).mono ?_; rintro e w2 ⟨rfl, hw⟩; subst w2; rw [HP.out])
          go_step3
          refine ⟨⟨_, tl, p, _, kind, 0, ⟨_, _, _, _, _, _, _, _, _, _, _, _, _, _, _, _, _, _, _, _, _, _, _, _, _, _, _, _, _, _, _, _, _, _, _, _, _, _, _, _, _, _, _, _, _, _, _, _, _, _, _, _, _, _, _, _, _, _, _, _, _, _, _, _, _, _, _, _, _, _, _, _, _, _, _, _, _, _, _, _, _, _, _, rfl⟩, HM.out, at_comment he (by omega) HR.out HC2.out _ _⟩, ?_⟩
          show 8 * (s.size - ((p : Nat) : Int).toNat) + 0 < 8 * (s.size - (((i : Nat) : Int).toNat + ((L : Nat) : Int).toNat)) + 7
          omega
        · have HP : Hid (preB (s.extract p s.size) ⟨#[47, 47]⟩ = false) := by
            have e := two_slash s p (by omega)
            rw [decide_eq_false (by omega)] at e
            exact e
          have HC2 : Hid (¬ (bt s p 0 = 47 ∧ p + 1 < s.size ∧ bt s p 1 = 47)) := c2
          have hx1 : (0 : Int) < ((s.extract p s.size).size : Int) := by omega
          have hx2 : 0 < (s.extract p s.size).size := by omega
          have HB : Hid (((s.extract p s.size)[0]'hx2).toNat = bt s p 0) := by
            have e := rest_bt s p 0 0 (by omega)
            unfold bt at e
            show _ = (s.get! (p + 0)).toNat
            rw [show p + 0 + 0 = p + 0 from rfl] at e
            rw [← e]
            congr 1
            exact (getElem!_pos (s.extract p s.size).data 0 hx2).symm
          have b256 : bt s p 0 < 256 := (s.get! (p + 0)).toNat_lt
          obtain ⟨q1, hq1⟩ : ∃ q, Lib.indexByte [32, 9, 10] (bt s p 0).toUInt8 = q := ⟨_, rfl⟩
          obtain ⟨q2, hq2⟩ : ∃ q, Lib.indexByte [48, 49, 50, 51, 52, 53, 54, 55, 56, 57] (bt s p 0).toUInt8 = q := ⟨_, rfl⟩
          have H1 : Hid (∀ wx : World, Calls Tryd.prog 63 #[.string ⟨#[32, 9, 10]⟩, .int .u8 (bt s p 0 : Nat)] wx fun e w' => e = .returned (.int .i64 q1) ∧ w' = wx) := fun wx => by
            have e := Tryd.strings_IndexByte ⟨#[32, 9, 10]⟩ ((bt s p 0 : Nat) : Int) wx
            rw [Int.toNat_natCast] at e
            rw [← hq1]; exact e
          have H2 : Hid (∀ wx : World, Calls Tryd.prog 63 #[.string ⟨#[48, 49, 50, 51, 52, 53, 54, 55, 56, 57]⟩, .int .u8 (bt s p 0 : Nat)] wx fun e w' => e = .returned (.int .i64 q2) ∧ w' = wx) := fun wx => by
            have e := Tryd.strings_IndexByte ⟨#[48, 49, 50, 51, 52, 53, 54, 55, 56, 57]⟩ ((bt s p 0 : Nat) : Int) wx
            rw [Int.toNat_natCast] at e
            rw [← hq2]; exact e
          have hb1 := blank_all (bt s p 0) b256
          have hb2 := digit_all (bt s p 0) b256
          rw [hq1] at hb1
          rw [hq2] at hb2
          clear hq1 hq2
          by_cases c1 : bt s p 0 = 32 ∨ bt s p 0 = 9 ∨ bt s p 0 = 10
          · have g1 : 0 ≤ q1 := by rw [decide_eq_true c1] at hb1; exact of_decide_eq_true hb1
            have HC1 : Hid (bt s p 0 = 32 ∨ bt s p 0 = 9 ∨ bt s p 0 = 10) := c1
            clear M hxs hl0 c2 c1 hb1 hb2 b256
            go_wp2_with (first | (go_at_call 62; refine (prefix26 _ _ _).mono ?_; rintro e w2 ⟨rfl, hw⟩; subst w2; rw [HP.out]) | (go_at_call 63; rw [HB.out]; (with_reducible show Calls Tryd.prog 63 #[Value.string ⟨#[32, 9, 10]⟩, _] _ _); refine (H1.out _).mono ?_; rintro e w2 ⟨rfl, hw⟩; subst w2) | (go_at_call 63; rw [HB.out]; (with_reducible show Calls Tryd.prog 63 #[Value.string ⟨#[48, 49, 50, 51, 52, 53, 54, 55, 56, 57]⟩, _] _ _); refine (H2.out _).mono ?_; rintro e w2 ⟨rfl, hw⟩; subst w2))
            go_step3
            refine ⟨⟨_, tl, p, _, kind, 0, ⟨_, _, _, _, _, _, _, _, _, _, _, _, _, _, _, _, _, _, _, _, _, _, _, _, _, _, _, _, _, _, _, _, _, _, _, _, _, _, _, _, _, _, _, _, _, _, _, _, _, _, _, _, _, _, _, _, _, _, _, _, _, _, _, _, _, _, _, _, _, _, _, _, _, _, _, _, _, _, _, _, _, _, _, rfl⟩, HM.out, at_blank he (by omega) HR.out HC1.out _ _⟩, ?_⟩
            show 8 * (s.size - ((p : Nat) : Int).toNat) + 0 < 8 * (s.size - (((i : Nat) : Int).toNat + ((L : Nat) : Int).toNat)) + 7
            omega
          · have g1 : ¬ 0 ≤ q1 := by rw [decide_eq_false c1] at hb1; exact of_decide_eq_false hb1
            have HC1 : Hid (¬ (bt s p 0 = 32 ∨ bt s p 0 = 9 ∨ bt s p 0 = 10)) := c1
            cases hd : digB ((bt s p 0 : Nat) : Int)
            · have g2 : ¬ 0 ≤ q2 := by rw [hd] at hb2; exact of_decide_eq_false hb2
              have HD : Hid (digB ((bt s p 0 : Nat) : Int) = false) := hd
              clear M hxs hl0 c2 c1 hb1 hb2 b256 hd
              go_wp2_with (first | (go_at_call 62; refine (prefix26 _ _ _).mono ?_; rintro e w2 ⟨rfl, hw⟩; subst w2; rw [HP.out]) | (go_at_call 63; rw [HB.out]; (with_reducible show Calls Tryd.prog 63 #[Value.string ⟨#[32, 9, 10]⟩, _] _ _); refine (H1.out _).mono ?_; rintro e w2 ⟨rfl, hw⟩; subst w2) | (go_at_call 63; rw [HB.out]; (with_reducible show Calls Tryd.prog 63 #[Value.string ⟨#[48, 49, 50, 51, 52, 53, 54, 55, 56, 57]⟩, _] _ _); refine (H2.out _).mono ?_; rintro e w2 ⟨rfl, hw⟩; subst w2))
              go_step3
              refine ⟨⟨_, tl, p, _, kind, 0, ⟨_, _, _, _, _, _, _, _, _, _, _, _, _, _, _, _, _, _, _, _, _, _, _, _, _, _, _, _, _, _, _, _, _, _, _, _, _, _, _, _, _, _, _, _, _, _, _, _, _, _, _, _, _, _, _, _, _, _, _, _, _, _, _, _, _, _, _, _, _, _, _, _, _, _, _, _, _, _, _, _, _, _, _, rfl⟩, HM.out, at_name he (by omega) HR.out HC1.out HC2.out HD.out _ _⟩, ?_⟩
              show 8 * (s.size - ((p : Nat) : Int).toNat) + 3 < 8 * (s.size - (((i : Nat) : Int).toNat + ((L : Nat) : Int).toNat)) + 7
              omega
            · have g2 : 0 ≤ q2 := by rw [hd] at hb2; exact of_decide_eq_true hb2
              have HD : Hid (digB ((bt s p 0 : Nat) : Int) = true) := hd
              clear M hxs hl0 c2 c1 hb1 hb2 b256 hd
              go_wp2_with (first | (go_at_call 62; refine (prefix26 _ _ _).mono ?_; rintro e w2 ⟨rfl, hw⟩; subst w2; rw [HP.out]) | (go_at_call 63; rw [HB.out]; (with_reducible show Calls Tryd.prog 63 #[Value.string ⟨#[32, 9, 10]⟩, _] _ _); refine (H1.out _).mono ?_; rintro e w2 ⟨rfl, hw⟩; subst w2) | (go_at_call 63; rw [HB.out]; (with_reducible show Calls Tryd.prog 63 #[Value.string ⟨#[48, 49, 50, 51, 52, 53, 54, 55, 56, 57]⟩, _] _ _); refine (H2.out _).mono ?_; rintro e w2 ⟨rfl, hw⟩; subst w2))
              go_step3
              refine ⟨⟨_, tl, p, _, kind, 0, ⟨_, _, _, _, _, _, _, _, _, _, _, _, _, _, _, _, _, _, _, _, _, _, _, _, _, _, _, _, _, _, _, _, _, _, _, _, _, _, _, _, _, _, _, _, _, _, _, _, _, _, _, _, _, _, _, _, _, _, _, _, _, _, _, _, _, _, _, _, _, _, _, _, _, _, _, _, _, _, _, _, _, _, _, rfl⟩, HM.out, at_number he (by omega) HR.out HC1.out HC2.out HD.out _ _⟩, ?_⟩
              show 8 * (s.size - ((p : Nat) : Int).toNat) + 3 < 8 * (s.size - (((i : Nat) : Int).toNat + ((L : Nat) : Int).toNat)) + 7
              omega
      · have hem : (s.extract p s.size).toList.isEmpty = true := by
          have : (s.extract p s.size).toList = [] := List.eq_nil_of_length_eq_zero (by omega)
          rw [this]; rfl
        have HE : Hid (R = (tl, 0, 0)) := by have := HR.out; rw [scan_end he] at this; exact this.symm
        obtain ⟨c0, c1, c2⟩ := M.cells
        have f00 := M.free 0
        have f01 := M.free 1
        have f02 := M.free 2
        clear M hxs hl0
        go_wp2_with fail
        rw [jumps_ret]
        have B1 := HM.out.below
        have O1 := HM.out.own
        have hRR := HE.out
        clear H0 HR
        subst hRR
        exact bodyPost_ret (v := .agg #[.slice po tl.length cap, .int .i64 0, .int .i64 0]) (by simp [results, Tryd.results19, go_sem, c0, c1, c2]) rfl ⟨_, rfl, rowv_of (ownsRow_setCell_below (ownsRow_setCell_below (ownsRow_setCell_below O1 (by simp) _) (by simp) _) (by simp) _), fun g hg => by have := (O1.lt g hg).1; omega, by repeat (first | (with_reducible refine Below.setCell ?_ (by first | omega | (simp; try omega)) _) | (with_reducible exact B1))⟩
    · have HR : Hid (scan s f (i + lineL (s.data.toList.drop i)) tl = R) := h
      have HM : Hid (Mem19 w v tl wr) := M
      have ls : s.data.toList.length = s.size := by simp
      have lle := line_le (s.data.toList.drop i)
      rw [List.length_drop, ls] at lle
      have i0 : (0 : Int) ≤ (i : Int) := by omega
      have i1 : (i : Int) ≤ (s.size : Int) := by omega
      obtain ⟨x, hx⟩ : ∃ x, s.extract i s.size = x := ⟨_, rfl⟩
      have HX : Hid (s.extract i s.size = x) := hx
      have hln := line64 x wr (by rw [← hx, rest_size s i (by omega)]; omega)
      rw [← hx, rest_list, hx] at hln
      obtain ⟨L, hLL⟩ : ∃ L, lineL (s.data.toList.drop i) = L := ⟨_, rfl⟩
      rw [hLL] at hln HR lp lle
      have HC : Hid (Calls Tryd.prog 64 #[.string x] wr fun e w' => e = .returned (.int .i64 (L : Nat)) ∧ w' = wr) := hln
      clear h M hln hx hLL ls
      subst c0
      simp only [behind, findLabel, Option.getD]
      go_wp2_with (go_at_call 64; (try simp only [Int.toNat_natCast]); rw [HX.out]; refine (Hid.out HC).mono ?_; rintro e w2 ⟨rfl, hw⟩; subst w2)
      go_step3
      obtain ⟨g, rfl⟩ : ∃ g, f = g + 1 := ⟨f - 1, by omega⟩
      refine ⟨⟨v, tl, i, (L : Nat), kind, 0, ⟨_, _, _, _, _, _, _, _, _, _, _, _, _, _, _, _, _, _, _, _, _, _, _, _, _, _, _, _, _, _, _, _, _, _, _, _, _, _, _, _, _, _, _, _, _, _, _, _, _, _, _, _, _, _, _, _, _, _, _, _, _, _, _, _, _, _, _, _, _, _, _, _, _, _, _, _, _, _, _, _, _, _, _, rfl⟩, HM.out, Or.inr (Or.inl ⟨rfl, rfl, L, g, rfl, by omega, by omega, HR.out⟩)⟩, ?_⟩
      show 8 * (s.size - (((i : Nat) : Int).toNat + ((L : Nat) : Int).toNat)) + 7 < 8 * (s.size - ((i : Nat) : Int).toNat) + 0
      omega
    · have HR : Hid (scan s f (i + 1) tl = R) := h
      have HM : Hid (Mem19 w v tl wr) := M
      clear h M
      subst c0
      simp only [behind, findLabel, Option.getD]
      go_wp2
      go_step3
      obtain ⟨g, rfl⟩ : ∃ g, f = g + 1 := ⟨f - 1, by omega⟩
      refine ⟨⟨v, tl, i, 1, kind, 0, ⟨_, _, _, _, _, _, _, _, _, _, _, _, _, _, _, _, _, _, _, _, _, _, _, _, _, _, _, _, _, _, _, _, _, _, _, _, _, _, _, _, _, _, _, _, _, _, _, _, _, _, _, _, _, _, _, _, _, _, _, _, _, _, _, _, _, _, _, _, _, _, _, _, _, _, _, _, _, _, _, _, _, _, _, rfl⟩, HM.out, Or.inr (Or.inl ⟨rfl, rfl, 1, g, rfl, by omega, by omega, HR.out⟩)⟩, ?_⟩
      show 8 * (s.size - (((i : Nat) : Int).toNat + (1 : Int).toNat)) + 7 < 8 * (s.size - ((i : Nat) : Int).toNat) + 0
      omega
    · have HM : Hid (Mem19 w v tl wr) := M
      have HS : Hid (scan s (f + 1) i tl = R ∧ skipN s i = 0) := ⟨hsc, hsk⟩
      have i0 : (0 : Int) ≤ (i : Int) := by omega
      have i1 : (i : Int) ≤ (s.size : Int) := by omega
      have HT := t_dig (s := s) (i := i) (by omega) h
      obtain ⟨x, hx⟩ : ∃ x, s.extract i s.size = x := ⟨_, rfl⟩
      have HX : Hid (s.extract i s.size = x) := hx
      have hx2 : x.size ≤ 1048576 := by rw [← hx, rest_size s i (by omega)]; omega
      have hcl := num65 x wr hx2 (HLB.out.next M.below)
      clear h hsc hsk
      rw [hx] at HT
      obtain ⟨t1, t2, t3⟩ := HT
      rw [← t1, ← t2, ← t3] at hcl
      have HC : Hid (Calls Tryd.prog 65 #[.string x] wr fun e w' => e = .returned (.tuple #[.int .i64 (tK x), .int .i64 (tL x : Nat), .int .i64 (tC x)]) ∧ Below wr.heap.size wr w') := hcl
      clear hcl t1 t2 t3 hx hx2 M
      subst c0
      simp only [behind, findLabel, Option.getD]
      go_wp2_with (go_at_call 65; (try simp only [Int.toNat_natCast]); rw [HX.out]; refine (Hid.out HC).mono ?_; rintro e w2 ⟨rfl, hw⟩)
      go_step3
      have e := HX.out
      subst e
      refine ⟨⟨v, tl, i, _, _, _, ⟨_, _, _, _, _, _, _, _, _, _, _, _, _, _, _, _, _, _, _, _, _, _, _, _, _, _, _, _, _, _, _, _, _, _, _, _, _, _, _, _, _, _, _, _, _, _, _, _, _, _, _, _, _, _, _, _, _, _, _, _, _, _, _, _, _, _, _, _, _, _, _, _, _, _, _, _, _, _, _, _, _, _, _, rfl⟩, HM.out.next hw, Or.inr (Or.inr ⟨hi, f, hf, Or.inr (Or.inr ⟨HS.out.1, HS.out.2, Or.inr (Or.inr (Or.inr ⟨rfl, rfl, rfl, rfl⟩))⟩)⟩)⟩, ?_⟩
      show 8 * (s.size - ((i : Nat) : Int).toNat) + 1 < 8 * (s.size - ((i : Nat) : Int).toNat) + 3
      omega
    · have HM : Hid (Mem19 w v tl wr) := M
      have HS : Hid (scan s (f + 1) i tl = R ∧ skipN s i = 0) := ⟨hsc, hsk⟩
      have i0 : (0 : Int) ≤ (i : Int) := by omega
      have i1 : (i : Int) ≤ (s.size : Int) := by omega
      obtain ⟨x, hx⟩ : ∃ x, s.extract i s.size = x := ⟨_, rfl⟩
      have HX : Hid (s.extract i s.size = x) := hx
      have hx2 : x.size ≤ 1048576 := by rw [← hx, rest_size s i (by omega)]; omega
      have hcl := name66 x wr hx2
      have hd := h
      clear h hsc hsk
      obtain ⟨n, hn⟩ : ∃ n, (nameRun x x.size 0 0).1 = n := ⟨_, rfl⟩
      rw [hn] at hcl
      subst c0
      by_cases n0 : n = 0
      · have HC : Hid (Calls Tryd.prog 66 #[.string x] wr fun e w' => e = .returned (.tuple #[.int .i64 (nameKd x), .int .i64 0, .int .i64 (nameCd x)]) ∧ Below wr.heap.size wr w') := by subst n0; exact hcl
        have HN : Hid (digB ((bt s i 0 : Nat) : Int) = false ∧ (nameRun x x.size 0 0).1 = 0) := ⟨hd, by rw [hn, n0]⟩
        clear hcl hx hx2 M hn n0 hd
        simp only [behind, findLabel, Option.getD]
        go_wp2_with (go_at_call 66; (try simp only [Int.toNat_natCast]); rw [HX.out]; refine (Hid.out HC).mono ?_; rintro e w2 ⟨rfl, hw⟩)
        go_step3
        have e := HX.out
        subst e
        refine ⟨⟨v, tl, i, _, _, _, ⟨_, _, _, _, _, _, _, _, _, _, _, _, _, _, _, _, _, _, _, _, _, _, _, _, _, _, _, _, _, _, _, _, _, _, _, _, _, _, _, _, _, _, _, _, _, _, _, _, _, _, _, _, _, _, _, _, _, _, _, _, _, _, _, _, _, _, _, _, _, _, _, _, _, _, _, _, _, _, _, _, _, _, _, rfl⟩, HM.out.next hw, Or.inr (Or.inr ⟨hi, f, hf, Or.inr (Or.inr ⟨HS.out.1, HS.out.2, Or.inr (Or.inr (Or.inl ⟨rfl, HN.out.1, HN.out.2⟩))⟩)⟩)⟩, ?_⟩
        show 8 * (s.size - ((i : Nat) : Int).toNat) + 2 < 8 * (s.size - ((i : Nat) : Int).toNat) + 3
        omega
      · have HT := t_name (s := s) (i := i) (by omega) hd (by rw [hx, hn]; exact n0)
        rw [hx, hn] at HT
        obtain ⟨t1, t2, t3⟩ := HT
        have p0 : ¬ ((tL x : Nat) : Int) = 0 := by rw [t1]; omega
        have p1 : (((tL x : Nat) : Int) == 0) = false := by simpa using p0
        rw [← t1, ← t2, ← t3] at hcl
        have HC : Hid (Calls Tryd.prog 66 #[.string x] wr fun e w' => e = .returned (.tuple #[.int .i64 (tK x), .int .i64 (tL x : Nat), .int .i64 (tC x)]) ∧ Below wr.heap.size wr w') := hcl
        clear hcl hx hx2 M hn n0 hd t1 t2 t3
        simp only [behind, findLabel, Option.getD]
        go_wp2_with (go_at_call 66; (try simp only [Int.toNat_natCast]); rw [HX.out]; refine (Hid.out HC).mono ?_; rintro e w2 ⟨rfl, hw⟩)
        go_step3
        have e := HX.out
        subst e
        refine ⟨⟨v, tl, i, _, _, _, ⟨_, _, _, _, _, _, _, _, _, _, _, _, _, _, _, _, _, _, _, _, _, _, _, _, _, _, _, _, _, _, _, _, _, _, _, _, _, _, _, _, _, _, _, _, _, _, _, _, _, _, _, _, _, _, _, _, _, _, _, _, _, _, _, _, _, _, _, _, _, _, _, _, _, _, _, _, _, _, _, _, _, _, _, rfl⟩, HM.out.next hw, Or.inr (Or.inr ⟨hi, f, hf, Or.inr (Or.inr ⟨HS.out.1, HS.out.2, Or.inr (Or.inr (Or.inr ⟨rfl, rfl, rfl, rfl⟩))⟩)⟩)⟩, ?_⟩
        show 8 * (s.size - ((i : Nat) : Int).toNat) + 1 < 8 * (s.size - ((i : Nat) : Int).toNat) + 3
        omega
    · have HM : Hid (Mem19 w v tl wr) := M
      have HS : Hid (scan s (f + 1) i tl = R ∧ skipN s i = 0) := ⟨hsc, hsk⟩
      have i0 : (0 : Int) ≤ (i : Int) := by omega
      have i1 : (i : Int) ≤ (s.size : Int) := by omega
      have HT := t_sign (s := s) (i := i) (by omega) h hn
      obtain ⟨x, hx⟩ : ∃ x, s.extract i s.size = x := ⟨_, rfl⟩
      have HX : Hid (s.extract i s.size = x) := hx
      have hx2 : x.size ≤ 1048576 := by rw [← hx, rest_size s i (by omega)]; omega
      have hcl := sign67 x wr hx2
      clear h hsc hsk
      rw [hx] at HT
      obtain ⟨t1, t2, t3⟩ := HT
      rw [← t2, ← t3, ← t1] at hcl
      have HC : Hid (Calls Tryd.prog 67 #[.string x] wr fun e w' => e = .returned (.tuple #[.int .i64 (tK x), .int .i64 (tL x : Nat), .int .i64 (tC x)]) ∧ Below wr.heap.size wr w') := hcl
      clear hcl t1 t2 t3 hx hx2 M hn
      simp only [behind, findLabel, Option.getD]
      go_wp2_with (go_at_call 67; (try simp only [Int.toNat_natCast]); rw [HX.out]; refine (Hid.out HC).mono ?_; rintro e w2 ⟨rfl, hw⟩)
      go_step3
      have e := HX.out
      subst e
      refine ⟨⟨v, tl, i, _, _, _, ⟨_, _, _, _, _, _, _, _, _, _, _, _, _, _, _, _, _, _, _, _, _, _, _, _, _, _, _, _, _, _, _, _, _, _, _, _, _, _, _, _, _, _, _, _, _, _, _, _, _, _, _, _, _, _, _, _, _, _, _, _, _, _, _, _, _, _, _, _, _, _, _, _, _, _, _, _, _, _, _, _, _, _, _, rfl⟩, HM.out.next hw, Or.inr (Or.inr ⟨hi, f, hf, Or.inr (Or.inr ⟨HS.out.1, HS.out.2, Or.inr (Or.inr (Or.inr ⟨rfl, rfl, rfl, rfl⟩))⟩)⟩)⟩, ?_⟩
      show 8 * (s.size - ((i : Nat) : Int).toNat) + 1 < 8 * (s.size - ((i : Nat) : Int).toNat) + 2
      omega
    · have HM : Hid (Mem19 w v tl wr) := M
      have HS : Hid (scan s (f + 1) i tl = R ∧ skipN s i = 0) := ⟨hsc, hsk⟩
      have i0 : (0 : Int) ≤ (i : Int) := by omega
      have i1 : (i : Int) ≤ (s.size : Int) := by omega
      obtain ⟨x, hx⟩ : ∃ x, s.extract i s.size = x := ⟨_, rfl⟩
      have HX : Hid (s.extract i s.size = x) := hx
      have hlv : ∃ po cap, v = .slice po tl.length cap := by
        rcases M.own.2 with ⟨h1, h2⟩ | ⟨g, cap, cur, h1, _⟩
        · exact ⟨none, 0, by rw [h1, h2]⟩
        · exact ⟨_, _, h1⟩
      obtain ⟨po, cap, rfl⟩ := hlv
      have tl4 := M.most
      clear hsc hsk
      rw [hx]
      by_cases z : tC x = 0
      · rw [z]
        by_cases q : tl.length = 400
        · have q4 : ((tl.length : Nat) : Int) = 400 := by omega
          have HQ : Hid (tl.length = 400 ∧ tC x = 0) := ⟨q, z⟩
          clear M hx z q tl4
          simp only [behind, findLabel, Option.getD]
          go_wp2
          go_step3
          have e := HX.out
          subst e
          refine ⟨⟨_, tl, i, _, _, _, ⟨_, _, _, _, _, _, _, _, _, _, _, _, _, _, _, _, _, _, _, _, _, _, _, _, _, _, _, _, _, _, _, _, _, _, _, _, _, _, _, _, _, _, _, _, _, _, _, _, _, _, _, _, _, _, _, _, _, _, _, _, _, _, _, _, _, _, _, _, _, _, _, _, _, _, _, _, _, _, _, _, _, _, _, rfl⟩, HM.out, Or.inl ⟨rfl, ?_⟩⟩, ?_⟩
          · rw [← HS.out.1]; exact scan_many hi HS.out.2 HQ.out.2 HQ.out.1
          · show 0 < 8 * (s.size - ((i : Nat) : Int).toNat) + 1
            omega
        · have q5 : (((tl.length : Nat) : Int) == 400) = false := by simp; omega
          have HQ : Hid (tl.length ≠ 400 ∧ tC x = 0) := ⟨q, z⟩
          obtain ⟨n, hn⟩ : ∃ n, tL x = n := ⟨_, rfl⟩
          have tp := tL_pos x (by rw [← hx, rest_size s i (by omega)]; omega) z
          have tle := tL_le x
          rw [← hx, rest_size s i (by omega), hx, hn] at tle
          rw [hn] at tp ⊢
          have HN : Hid (tL x = n) := hn
          obtain ⟨p, hp⟩ : ∃ p, i + n = p := ⟨_, rfl⟩
          have ew : (i : Int) + (n : Int) = (p : Int) := by omega
          have p0 : (i : Int) ≤ (p : Int) := by omega
          have p1 : (p : Int) ≤ (s.size : Int) := by omega
          obtain ⟨y, hy⟩ : ∃ y, s.extract i p = y := ⟨_, rfl⟩
          have HY : Hid (s.extract i p = y) := hy
          have H68 : Hid (∀ wx : World, Calls Tryd.prog 68 #[.string y] wx fun e w' => e = .returned (.string y) ∧ Below wx.heap.size wx w') := fun wx => clone68 y wx (by rw [← hy]; simp; omega)
          obtain ⟨i88, hi88, hz0, hz1, hz2⟩ := info_parts info88
          have HI : Hid (Tryd.prog.info? 88 = some i88 ∧ i88.zero = some (.agg #[.int .i64 0, .string ⟨#[]⟩, .int .i64 0]) ∧ i88.size = 3 ∧ i88.bytes = 32) := ⟨hi88, hz0, hz1, hz2⟩
          obtain ⟨k, hk⟩ : ∃ k, tK x = k := ⟨_, rfl⟩
          rw [hk]
          have HK : Hid (tK x = k) := hk
          clear M hx z q hn hy hk hi88 hz0 hz1 hz2
          simp only [behind, findLabel, Option.getD]
          go_wp2_with (first | (go_at_call 68; (try simp only [Int.toNat_natCast]); rw [HY.out]; refine (H68.out _).mono ?_; rintro e w2 ⟨rfl, hw⟩; have M2 := HM.out.next hw; have O2 := M2.own) | (at_builtin; refine wpList_append_own _ rfl _ _ 34 rfl (w.heap.size + 1) 88 i88 (.agg #[.int .i64 0, .string ⟨#[]⟩, .int .i64 0]) 3 32 Tryd.underlying34 HI.out.1 HI.out.2.1 HI.out.2.2.1 HI.out.2.2.2 rfl (by decide) _ _ _ rfl (O2.alloc _) ⟨w2.heap.size, 0, none⟩ 1 1 [.int .i64 k, .string y, .int .i64 (i : Nat)] rfl rfl ?c1 ?c2 ?c3 ?c4 ?c5 ?_))
          case c1 =>
            intro j u hj
            match j, hj with
            | 0, hj => simp at hj; subst hj; simp [Addr.add]
            | 1, hj => simp at hj; subst hj; simp [Addr.add]
            | 2, hj => simp at hj; subst hj; simp [Addr.add]
          case c2 => intro u hu; simp at hu; rcases hu with rfl | rfl | rfl <;> rfl
          case c3 => unfold maxLen; omega
          case c4 => omega
          case c5 => have := M2.lt; simp; omega
          intro v' w1 hown' hgrow _
          have M3 := M2.push (by have := HQ.out.1; omega) hown' hgrow
          have HM3 : Hid (Mem19 w v' (tl ++ [(k, y, i)]) w1) := M3
          clear hown' hgrow M3 M2 O2
          go_wp2
          go_step3
          have e := HX.out
          have e2 := HN.out
          have e3 := HK.out
          have e4 := HY.out
          obtain ⟨g, rfl⟩ : ∃ g, f = g + 1 := ⟨f - 1, by omega⟩
          have hR1 := HS.out.1
          rw [scan_tok hi HS.out.2 (by rw [e]; exact HQ.out.2) HQ.out.1, e, e2, e3, hp, e4, ← hp] at hR1
          refine ⟨⟨v', tl ++ [(k, y, i)], i, (n : Nat), k, 0, ⟨_, _, _, _, _, _, _, _, _, _, _, _, _, _, _, _, _, _, _, _, _, _, _, _, _, _, _, _, _, _, _, _, _, _, _, _, _, _, _, _, _, _, _, _, _, _, _, _, _, _, _, _, _, _, _, _, _, _, _, _, _, _, _, _, _, _, _, _, _, _, _, _, _, _, _, _, _, _, _, _, _, _, _, rfl⟩, HM3.out, Or.inr (Or.inl ⟨rfl, rfl, n, g, rfl, by omega, by omega, hR1⟩)⟩, ?_⟩
          show 8 * (s.size - (((i : Nat) : Int).toNat + ((n : Nat) : Int).toNat)) + 7 < 8 * (s.size - ((i : Nat) : Int).toNat) + 1
          omega
      · have z1 : (tC x == 0) = false := by simpa using z
        have HZ : Hid (¬ tC x = 0) := z
        clear M hx tl4
        simp only [behind, findLabel, Option.getD]
        go_wp2
        go_step3
        have e := HX.out
        subst e
        refine ⟨⟨_, tl, i, _, _, _, ⟨_, _, _, _, _, _, _, _, _, _, _, _, _, _, _, _, _, _, _, _, _, _, _, _, _, _, _, _, _, _, _, _, _, _, _, _, _, _, _, _, _, _, _, _, _, _, _, _, _, _, _, _, _, _, _, _, _, _, _, _, _, _, _, _, _, _, _, _, _, _, _, _, _, _, _, _, _, _, _, _, _, _, _, rfl⟩, HM.out, Or.inl ⟨rfl, ?_⟩⟩, ?_⟩
        · rw [← HS.out.1]; exact scan_bad hi HS.out.2 HZ.out
        · show 0 < 8 * (s.size - ((i : Nat) : Int).toNat) + 1
          omega
end Go.Proofs.YtpildklndfgojaaDoor.Tk
