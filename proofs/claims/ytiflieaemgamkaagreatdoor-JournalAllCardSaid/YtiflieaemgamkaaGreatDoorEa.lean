/- Whether a record may be: the contracts of entry's within, isSumOrNone, Check and of the document's hash and Is of layer 10 over this translation. Condition: texts that fit a string. -/
import Derived.Test.YtiflieaemgamkaaGreatDoorYn
import Derived.Test.YtiflieaemgamkaaGreatDoorNb
namespace Go.Proofs.YtiflieaemgamkaaGreatDoor
open Go.RowKit Vi Cm

theorem ewithin_any (x lo hi : Int) (w : World) : Calls Tryz.prog 157 #[.int .i64 x, .int .i64 lo, .int .i64 hi] w fun e w' => e = .returned (.bool (wthB x lo hi)) ∧ w = w' := by
  have HV := Lib.hid (show wthB x lo hi = (decide (lo ≤ x) && decide (x ≤ hi)) from rfl)
  cases h1 : decide (lo ≤ x) <;> cases h2 : decide (x ≤ hi)
  all_goals
    rw [h1, h2] at HV
    go_enter Tryz.func157, Tryz.ntmps157
    go_wp2_with fail
    go_ret
    exact ⟨retBY HV.out.symm, rfl⟩
def sumB (s : ByteArray) : Bool := decide (s.size = 0) || decide (s.size = 32)
theorem sumB_no {s : ByteArray} (h0 : s.size ≠ 0) (h1 : s.size ≠ 32) : sumB s = false := by unfold sumB; rw [decide_eq_false h0, decide_eq_false h1]; rfl
theorem sumB_yes {s : ByteArray} (h1 : s.size = 32) : sumB s = true := by unfold sumB; rw [decide_eq_true h1]; simp
theorem sumB_or {s : ByteArray} (h : sumB s = true) : s.size = 0 ∨ s.size = 32 := by unfold sumB at h; simpa using h
theorem not_empty {s : ByteArray} (h : s.size ≠ 0) : (s.toList == []) = false := by
  rw [beq_eq_false_iff_ne]
  intro e
  exact h ((sz_list s).1 e)
theorem not_empty2 {s : ByteArray} (h : s.size ≠ 0) : s.toList.isEmpty = false := by
  rw [List.isEmpty_eq_false_iff]
  intro e
  exact h ((sz_list s).1 e)
set_option maxRecDepth 100000 in
theorem isum_any (s : ByteArray) (w : World) : Calls Tryz.prog 159 #[.string s] w fun e w' => e = .returned (.bool (sumB s)) ∧ w = w' := by
  by_cases h0 : s.size = 0
  · have e := sz_empty s h0
    subst e
    clear h0
    go_enter Tryz.func159, Tryz.ntmps159
    go_wp2_with fail
    go_ret
    exact ⟨rfl, rfl⟩
  · have e1 := not_empty h0
    have e2 := not_empty2 h0
    have e3 : ¬ s.toList = [] := fun e => h0 ((sz_list s).1 e)
    by_cases h1 : s.size = 32
    · have HS := Lib.hid (sumB_yes h1)
      have hq : ((s.size : Int) == 32) = true := by rw [h1]; rfl
      clear h0 h1
      go_enter Tryz.func159, Tryz.ntmps159
      go_wp2_with fail
      go_ret
      exact ⟨retBY HS.out.symm, rfl⟩
    · have HS := Lib.hid (sumB_no h0 h1)
      have hq : ((s.size : Int) == 32) = false := by simp; omega
      clear h0 h1
      go_enter Tryz.func159, Tryz.ntmps159
      go_wp2_with fail
      go_ret
      exact ⟨retBY HS.out.symm, rfl⟩
set_option maxRecDepth 100000 in
theorem rhash_any (s : ByteArray) (w : World) : Calls Tryz.prog 148 #[.string s] w fun e w' => e = .returned (.bool (sumB s)) ∧ w = w' := by
  by_cases h0 : s.size = 0
  · have e := sz_empty s h0
    subst e
    clear h0
    go_enter Tryz.func148, Tryz.ntmps148
    go_wp2_with fail
    go_ret
    exact ⟨rfl, rfl⟩
  · have e1 : ((s.size : Int) == 0) = false := by simp; exact fun e => h0 (by rw [e]; rfl)
    by_cases h1 : s.size = 32
    · have HS := Lib.hid (sumB_yes h1)
      have hq : ((s.size : Int) == 32) = true := by rw [h1]; rfl
      clear h0 h1
      go_enter Tryz.func148, Tryz.ntmps148
      go_wp2_with fail
      go_ret
      exact ⟨retBY HS.out.symm, rfl⟩
    · have HS := Lib.hid (sumB_no h0 h1)
      have hq : ((s.size : Int) == 32) = false := by simp; omega
      clear h0 h1
      go_enter Tryz.func148, Tryz.ntmps148
      go_wp2_with fail
      go_ret
      exact ⟨retBY HS.out.symm, rfl⟩
/-- may a record be? -/
def rok (a b k : Int) (x o n : ByteArray) (t u : Int) : Bool := wthB a 1 4294967295 && wthB b 0 4095 && wthB k 1 2 && nm x && sumB o && sumB n && !(decide (o.size = 0) && decide (n.size = 0)) && wthB t 0 524288 && wthB u 1 4294967296
def errR (a b k : Int) (x o n : ByteArray) (t u : Int) : Int := if rok a b k x o n t u = true then 0 else 2
theorem errR_no {a b k : Int} {x o n : ByteArray} {t u : Int} (h : rok a b k x o n t u = false) : (2 : Int) = errR a b k x o n t u := by unfold errR; rw [h]; rfl
theorem errR_yes {a b k : Int} {x o n : ByteArray} {t u : Int} (h : rok a b k x o n t u = true) : (0 : Int) = errR a b k x o n t u := by unfold errR; rw [h]; rfl
set_option maxRecDepth 100000 in
set_option maxHeartbeats 8000000 in
theorem rcheck_any (a b k : Int) (x o n : ByteArray) (t u : Int) (w : World) (hx : x.size ≤ maxLen) :
    Calls Tryz.prog 101 #[.agg #[.int .i64 a, .int .i64 b, .int .i64 k, .string x, .string o, .string n, .int .i64 t, .int .i64 u]] w fun e w' => e = .returned (.int .i64 (errR a b k x o n t u)) ∧ Below w.heap.size w w' := by
  have H1 := Lib.hid (fun W : World => ewithin_any a 1 4294967295 W)
  have H2 := Lib.hid (fun W : World => ewithin_any b 0 4095 W)
  have H4 := Lib.hid (fun W : World => ncheck_any x W hx)
  have H5 := Lib.hid (fun W : World => isum_any o W)
  have H6 := Lib.hid (fun W : World => isum_any n W)
  have H7 := Lib.hid (fun W : World => ewithin_any t 0 524288 W)
  have H8 := Lib.hid (fun W : World => ewithin_any u 1 4294967296 W)
  have HB := Lib.hid ((Below.refl w.heap.size w).alloc (Nat.le_refl _) (.cells #[.int .i64 a, .int .i64 b, .int .i64 k, .string x, .string o, .string n, .int .i64 t, .int .i64 u] 42 (0, 0)))
  clear hx
  cases h1 : wthB a 1 4294967295 with
  | false =>
    rw [h1] at H1
    have HE := Lib.hid (errR_no (show rok a b k x o n t u = false by unfold rok; rw [h1]; simp))
    clear  h1
    go_enter Tryz.func101, Tryz.ntmps101
    go_wp2_with fail
    refine (H1.out _).mono ?_
    rintro e w' ⟨rfl, rfl⟩
    go_wp2_with fail
    go_ret
    exact ⟨by rw [← HE.out]; rfl, HB.out⟩
  | true =>
    rw [h1] at H1
    cases h2 : wthB b 0 4095 with
    | false =>
      rw [h2] at H2
      have HE := Lib.hid (errR_no (show rok a b k x o n t u = false by unfold rok; rw [h1, h2]; simp))
      clear h1 h2
      go_enter Tryz.func101, Tryz.ntmps101
      go_wp2_with fail
      refine (H1.out _).mono ?_
      rintro e w' ⟨rfl, rfl⟩
      go_wp2_with fail
      refine (H2.out _).mono ?_
      rintro e w' ⟨rfl, rfl⟩
      go_wp2_with fail
      go_ret
      exact ⟨by rw [← HE.out]; rfl, HB.out⟩
    | true =>
      rw [h2] at H2
      by_cases hk : k = 1 ∨ k = 2
      · have h3 : wthB k 1 2 = true := by unfold wthB; rcases hk with rfl | rfl <;> rfl
        rcases hk with hk | hk
        · have g1 : (k == 1) = true := by rw [hk]; rfl
          have g3 : (k != 1) = false := by rw [hk]; rfl
          cases h4 : nm x with
          | false =>
            rw [nck_no x h4] at H4
            have HE := Lib.hid (errR_no (show rok a b k x o n t u = false by unfold rok; rw [h1, h2, h3, h4]; simp))
            clear h1 h2 h3 h4 hk
            go_enter Tryz.func101, Tryz.ntmps101
            go_wp2_with fail
            refine (H1.out _).mono ?_
            rintro e w' ⟨rfl, rfl⟩
            go_wp2_with fail
            refine (H2.out _).mono ?_
            rintro e w' ⟨rfl, rfl⟩
            go_wp2_with fail
            refine (H4.out _).mono ?_
            rintro e w' ⟨rfl, rfl⟩
            go_wp2_with fail
            go_ret
            exact ⟨by rw [← HE.out]; rfl, HB.out⟩
          | true =>
            rw [nck_yes x h4] at H4
            cases h5 : sumB o with
            | false =>
              rw [h5] at H5
              have HE := Lib.hid (errR_no (show rok a b k x o n t u = false by unfold rok; rw [h1, h2, h3, h4, h5]; simp))
              clear h1 h2 h3 h4 h5 hk
              go_enter Tryz.func101, Tryz.ntmps101
              go_wp2_with fail
              refine (H1.out _).mono ?_
              rintro e w' ⟨rfl, rfl⟩
              go_wp2_with fail
              refine (H2.out _).mono ?_
              rintro e w' ⟨rfl, rfl⟩
              go_wp2_with fail
              refine (H4.out _).mono ?_
              rintro e w' ⟨rfl, rfl⟩
              go_wp2_with fail
              refine (H5.out _).mono ?_
              rintro e w' ⟨rfl, rfl⟩
              go_wp2_with fail
              go_ret
              exact ⟨by rw [← HE.out]; rfl, HB.out⟩
            | true =>
              rw [h5] at H5
              cases h6 : sumB n with
              | false =>
                rw [h6] at H6
                have HE := Lib.hid (errR_no (show rok a b k x o n t u = false by unfold rok; rw [h1, h2, h3, h4, h5, h6]; simp))
                clear h1 h2 h3 h4 h5 h6 hk
                go_enter Tryz.func101, Tryz.ntmps101
                go_wp2_with fail
                refine (H1.out _).mono ?_
                rintro e w' ⟨rfl, rfl⟩
                go_wp2_with fail
                refine (H2.out _).mono ?_
                rintro e w' ⟨rfl, rfl⟩
                go_wp2_with fail
                refine (H4.out _).mono ?_
                rintro e w' ⟨rfl, rfl⟩
                go_wp2_with fail
                refine (H5.out _).mono ?_
                rintro e w' ⟨rfl, rfl⟩
                go_wp2_with fail
                refine (H6.out _).mono ?_
                rintro e w' ⟨rfl, rfl⟩
                go_wp2_with fail
                go_ret
                exact ⟨by rw [← HE.out]; rfl, HB.out⟩
              | true =>
                rw [h6] at H6
                by_cases ho : o.size = 0
                · have h9 : decide (o.size = 0) = true := decide_eq_true ho
                  by_cases hn : n.size = 0
                  · have h10 : decide (n.size = 0) = true := decide_eq_true hn
                    have HE := Lib.hid (errR_no (show rok a b k x o n t u = false by unfold rok; rw [h1, h2, h3, h4, h5, h6, h9, h10]; simp))
                    have eo := sz_empty o ho
                    have en := sz_empty n hn
                    clear h1 h2 h3 h4 h5 h6 hk h9 h10 ho hn
                    subst eo en
                    go_enter Tryz.func101, Tryz.ntmps101
                    go_wp2_with fail
                    refine (H1.out _).mono ?_
                    rintro e w' ⟨rfl, rfl⟩
                    go_wp2_with fail
                    refine (H2.out _).mono ?_
                    rintro e w' ⟨rfl, rfl⟩
                    go_wp2_with fail
                    refine (H4.out _).mono ?_
                    rintro e w' ⟨rfl, rfl⟩
                    go_wp2_with fail
                    refine (H5.out _).mono ?_
                    rintro e w' ⟨rfl, rfl⟩
                    go_wp2_with fail
                    refine (H6.out _).mono ?_
                    rintro e w' ⟨rfl, rfl⟩
                    go_wp2_with fail
                    go_ret
                    exact ⟨by rw [← HE.out]; rfl, HB.out⟩
                  · have h10 : decide (n.size = 0) = false := decide_eq_false hn
                    have hn1 := not_empty hn
                    have hn2 := not_empty2 hn
                    have hn3 : ¬ n.toList = [] := fun e => hn ((sz_list n).1 e)
                    have ho1 : (o.toList == []) = true := by rw [(sz_list o).2 ho]; rfl
                    have ho2 : o.toList.isEmpty = true := by rw [(sz_list o).2 ho]; rfl
                    have ho3 : o.toList = [] := (sz_list o).2 ho
                    cases h7 : wthB t 0 524288 with
                    | false =>
                      rw [h7] at H7
                      have HE := Lib.hid (errR_no (show rok a b k x o n t u = false by unfold rok; rw [h1, h2, h3, h4, h5, h6, h9, h10, h7]; simp))
                      clear h1 h2 h3 h4 h5 h6 hk h9 h10 ho hn h7
                      go_enter Tryz.func101, Tryz.ntmps101
                      go_wp2_with fail
                      refine (H1.out _).mono ?_
                      rintro e w' ⟨rfl, rfl⟩
                      go_wp2_with fail
                      refine (H2.out _).mono ?_
                      rintro e w' ⟨rfl, rfl⟩
                      go_wp2_with fail
                      refine (H4.out _).mono ?_
                      rintro e w' ⟨rfl, rfl⟩
                      go_wp2_with fail
                      refine (H5.out _).mono ?_
                      rintro e w' ⟨rfl, rfl⟩
                      go_wp2_with fail
                      refine (H6.out _).mono ?_
                      rintro e w' ⟨rfl, rfl⟩
                      go_wp2_with fail
                      refine (H7.out _).mono ?_
                      rintro e w' ⟨rfl, rfl⟩
                      go_wp2_with fail
                      go_ret
                      exact ⟨by rw [← HE.out]; rfl, HB.out⟩
                    | true =>
                      rw [h7] at H7
                      cases h8 : wthB u 1 4294967296 with
                      | false =>
                        rw [h8] at H8
                        have HE := Lib.hid (errR_no (show rok a b k x o n t u = false by unfold rok; rw [h1, h2, h3, h4, h5, h6, h9, h10, h7, h8]; simp))
                        clear h1 h2 h3 h4 h5 h6 hk h9 h10 ho hn h7 h8
                        go_enter Tryz.func101, Tryz.ntmps101
                        go_wp2_with fail
                        refine (H1.out _).mono ?_
                        rintro e w' ⟨rfl, rfl⟩
                        go_wp2_with fail
                        refine (H2.out _).mono ?_
                        rintro e w' ⟨rfl, rfl⟩
                        go_wp2_with fail
                        refine (H4.out _).mono ?_
                        rintro e w' ⟨rfl, rfl⟩
                        go_wp2_with fail
                        refine (H5.out _).mono ?_
                        rintro e w' ⟨rfl, rfl⟩
                        go_wp2_with fail
                        refine (H6.out _).mono ?_
                        rintro e w' ⟨rfl, rfl⟩
                        go_wp2_with fail
                        refine (H7.out _).mono ?_
                        rintro e w' ⟨rfl, rfl⟩
                        go_wp2_with fail
                        refine (H8.out _).mono ?_
                        rintro e w' ⟨rfl, rfl⟩
                        go_wp2_with fail
                        go_ret
                        exact ⟨by rw [← HE.out]; rfl, HB.out⟩
                      | true =>
                        rw [h8] at H8
                        have HE := Lib.hid (errR_yes (show rok a b k x o n t u = true by unfold rok; rw [h1, h2, h3, h4, h5, h6, h9, h10, h7, h8]; simp))
                        clear h1 h2 h3 h4 h5 h6 hk h9 h10 ho hn h7 h8
                        go_enter Tryz.func101, Tryz.ntmps101
                        go_wp2_with fail
                        refine (H1.out _).mono ?_
                        rintro e w' ⟨rfl, rfl⟩
                        go_wp2_with fail
                        refine (H2.out _).mono ?_
                        rintro e w' ⟨rfl, rfl⟩
                        go_wp2_with fail
                        refine (H4.out _).mono ?_
                        rintro e w' ⟨rfl, rfl⟩
                        go_wp2_with fail
                        refine (H5.out _).mono ?_
                        rintro e w' ⟨rfl, rfl⟩
                        go_wp2_with fail
                        refine (H6.out _).mono ?_
                        rintro e w' ⟨rfl, rfl⟩
                        go_wp2_with fail
                        refine (H7.out _).mono ?_
                        rintro e w' ⟨rfl, rfl⟩
                        go_wp2_with fail
                        refine (H8.out _).mono ?_
                        rintro e w' ⟨rfl, rfl⟩
                        go_wp2_with fail
                        go_ret
                        exact ⟨by rw [← HE.out]; rfl, HB.out⟩
                · have h9 : decide (o.size = 0) = false := decide_eq_false ho
                  have ho1 := not_empty ho
                  have ho2 := not_empty2 ho
                  have ho3 : ¬ o.toList = [] := fun e => ho ((sz_list o).1 e)
                  cases h7 : wthB t 0 524288 with
                  | false =>
                    rw [h7] at H7
                    have HE := Lib.hid (errR_no (show rok a b k x o n t u = false by unfold rok; rw [h1, h2, h3, h4, h5, h6, h9, h7]; simp))
                    clear h1 h2 h3 h4 h5 h6 hk h9 ho h7
                    go_enter Tryz.func101, Tryz.ntmps101
                    go_wp2_with fail
                    refine (H1.out _).mono ?_
                    rintro e w' ⟨rfl, rfl⟩
                    go_wp2_with fail
                    refine (H2.out _).mono ?_
                    rintro e w' ⟨rfl, rfl⟩
                    go_wp2_with fail
                    refine (H4.out _).mono ?_
                    rintro e w' ⟨rfl, rfl⟩
                    go_wp2_with fail
                    refine (H5.out _).mono ?_
                    rintro e w' ⟨rfl, rfl⟩
                    go_wp2_with fail
                    refine (H6.out _).mono ?_
                    rintro e w' ⟨rfl, rfl⟩
                    go_wp2_with fail
                    refine (H7.out _).mono ?_
                    rintro e w' ⟨rfl, rfl⟩
                    go_wp2_with fail
                    go_ret
                    exact ⟨by rw [← HE.out]; rfl, HB.out⟩
                  | true =>
                    rw [h7] at H7
                    cases h8 : wthB u 1 4294967296 with
                    | false =>
                      rw [h8] at H8
                      have HE := Lib.hid (errR_no (show rok a b k x o n t u = false by unfold rok; rw [h1, h2, h3, h4, h5, h6, h9, h7, h8]; simp))
                      clear h1 h2 h3 h4 h5 h6 hk h9 ho h7 h8
                      go_enter Tryz.func101, Tryz.ntmps101
                      go_wp2_with fail
                      refine (H1.out _).mono ?_
                      rintro e w' ⟨rfl, rfl⟩
                      go_wp2_with fail
                      refine (H2.out _).mono ?_
                      rintro e w' ⟨rfl, rfl⟩
                      go_wp2_with fail
                      refine (H4.out _).mono ?_
                      rintro e w' ⟨rfl, rfl⟩
                      go_wp2_with fail
                      refine (H5.out _).mono ?_
                      rintro e w' ⟨rfl, rfl⟩
                      go_wp2_with fail
                      refine (H6.out _).mono ?_
                      rintro e w' ⟨rfl, rfl⟩
                      go_wp2_with fail
                      refine (H7.out _).mono ?_
                      rintro e w' ⟨rfl, rfl⟩
                      go_wp2_with fail
                      refine (H8.out _).mono ?_
                      rintro e w' ⟨rfl, rfl⟩
                      go_wp2_with fail
                      go_ret
                      exact ⟨by rw [← HE.out]; rfl, HB.out⟩
                    | true =>
                      rw [h8] at H8
                      have HE := Lib.hid (errR_yes (show rok a b k x o n t u = true by unfold rok; rw [h1, h2, h3, h4, h5, h6, h9, h7, h8]; simp))
                      clear h1 h2 h3 h4 h5 h6 hk h9 ho h7 h8
                      go_enter Tryz.func101, Tryz.ntmps101
                      go_wp2_with fail
                      refine (H1.out _).mono ?_
                      rintro e w' ⟨rfl, rfl⟩
                      go_wp2_with fail
                      refine (H2.out _).mono ?_
                      rintro e w' ⟨rfl, rfl⟩
                      go_wp2_with fail
                      refine (H4.out _).mono ?_
                      rintro e w' ⟨rfl, rfl⟩
                      go_wp2_with fail
                      refine (H5.out _).mono ?_
                      rintro e w' ⟨rfl, rfl⟩
                      go_wp2_with fail
                      refine (H6.out _).mono ?_
                      rintro e w' ⟨rfl, rfl⟩
                      go_wp2_with fail
                      refine (H7.out _).mono ?_
                      rintro e w' ⟨rfl, rfl⟩
                      go_wp2_with fail
                      refine (H8.out _).mono ?_
                      rintro e w' ⟨rfl, rfl⟩
                      go_wp2_with fail
                      go_ret
                      exact ⟨by rw [← HE.out]; rfl, HB.out⟩
        · have g1 : (k == 1) = false := by rw [hk]; rfl
          have g2 : (k == 2) = true := by rw [hk]; rfl
          have g3 : (k != 1) = true := by rw [hk]; rfl
          have g4 : (k != 2) = false := by rw [hk]; rfl
          cases h4 : nm x with
          | false =>
            rw [nck_no x h4] at H4
            have HE := Lib.hid (errR_no (show rok a b k x o n t u = false by unfold rok; rw [h1, h2, h3, h4]; simp))
            clear h1 h2 h3 h4 hk
            go_enter Tryz.func101, Tryz.ntmps101
            go_wp2_with fail
            refine (H1.out _).mono ?_
            rintro e w' ⟨rfl, rfl⟩
            go_wp2_with fail
            refine (H2.out _).mono ?_
            rintro e w' ⟨rfl, rfl⟩
            go_wp2_with fail
            refine (H4.out _).mono ?_
            rintro e w' ⟨rfl, rfl⟩
            go_wp2_with fail
            go_ret
            exact ⟨by rw [← HE.out]; rfl, HB.out⟩
          | true =>
            rw [nck_yes x h4] at H4
            cases h5 : sumB o with
            | false =>
              rw [h5] at H5
              have HE := Lib.hid (errR_no (show rok a b k x o n t u = false by unfold rok; rw [h1, h2, h3, h4, h5]; simp))
              clear h1 h2 h3 h4 h5 hk
              go_enter Tryz.func101, Tryz.ntmps101
              go_wp2_with fail
              refine (H1.out _).mono ?_
              rintro e w' ⟨rfl, rfl⟩
              go_wp2_with fail
              refine (H2.out _).mono ?_
              rintro e w' ⟨rfl, rfl⟩
              go_wp2_with fail
              refine (H4.out _).mono ?_
              rintro e w' ⟨rfl, rfl⟩
              go_wp2_with fail
              refine (H5.out _).mono ?_
              rintro e w' ⟨rfl, rfl⟩
              go_wp2_with fail
              go_ret
              exact ⟨by rw [← HE.out]; rfl, HB.out⟩
            | true =>
              rw [h5] at H5
              cases h6 : sumB n with
              | false =>
                rw [h6] at H6
                have HE := Lib.hid (errR_no (show rok a b k x o n t u = false by unfold rok; rw [h1, h2, h3, h4, h5, h6]; simp))
                clear h1 h2 h3 h4 h5 h6 hk
                go_enter Tryz.func101, Tryz.ntmps101
                go_wp2_with fail
                refine (H1.out _).mono ?_
                rintro e w' ⟨rfl, rfl⟩
                go_wp2_with fail
                refine (H2.out _).mono ?_
                rintro e w' ⟨rfl, rfl⟩
                go_wp2_with fail
                refine (H4.out _).mono ?_
                rintro e w' ⟨rfl, rfl⟩
                go_wp2_with fail
                refine (H5.out _).mono ?_
                rintro e w' ⟨rfl, rfl⟩
                go_wp2_with fail
                refine (H6.out _).mono ?_
                rintro e w' ⟨rfl, rfl⟩
                go_wp2_with fail
                go_ret
                exact ⟨by rw [← HE.out]; rfl, HB.out⟩
              | true =>
                rw [h6] at H6
                by_cases ho : o.size = 0
                · have h9 : decide (o.size = 0) = true := decide_eq_true ho
                  by_cases hn : n.size = 0
                  · have h10 : decide (n.size = 0) = true := decide_eq_true hn
                    have HE := Lib.hid (errR_no (show rok a b k x o n t u = false by unfold rok; rw [h1, h2, h3, h4, h5, h6, h9, h10]; simp))
                    have eo := sz_empty o ho
                    have en := sz_empty n hn
                    clear h1 h2 h3 h4 h5 h6 hk h9 h10 ho hn
                    subst eo en
                    go_enter Tryz.func101, Tryz.ntmps101
                    go_wp2_with fail
                    refine (H1.out _).mono ?_
                    rintro e w' ⟨rfl, rfl⟩
                    go_wp2_with fail
                    refine (H2.out _).mono ?_
                    rintro e w' ⟨rfl, rfl⟩
                    go_wp2_with fail
                    refine (H4.out _).mono ?_
                    rintro e w' ⟨rfl, rfl⟩
                    go_wp2_with fail
                    refine (H5.out _).mono ?_
                    rintro e w' ⟨rfl, rfl⟩
                    go_wp2_with fail
                    refine (H6.out _).mono ?_
                    rintro e w' ⟨rfl, rfl⟩
                    go_wp2_with fail
                    go_ret
                    exact ⟨by rw [← HE.out]; rfl, HB.out⟩
                  · have h10 : decide (n.size = 0) = false := decide_eq_false hn
                    have hn1 := not_empty hn
                    have hn2 := not_empty2 hn
                    have hn3 : ¬ n.toList = [] := fun e => hn ((sz_list n).1 e)
                    have ho1 : (o.toList == []) = true := by rw [(sz_list o).2 ho]; rfl
                    have ho2 : o.toList.isEmpty = true := by rw [(sz_list o).2 ho]; rfl
                    have ho3 : o.toList = [] := (sz_list o).2 ho
                    cases h7 : wthB t 0 524288 with
                    | false =>
                      rw [h7] at H7
                      have HE := Lib.hid (errR_no (show rok a b k x o n t u = false by unfold rok; rw [h1, h2, h3, h4, h5, h6, h9, h10, h7]; simp))
                      clear h1 h2 h3 h4 h5 h6 hk h9 h10 ho hn h7
                      go_enter Tryz.func101, Tryz.ntmps101
                      go_wp2_with fail
                      refine (H1.out _).mono ?_
                      rintro e w' ⟨rfl, rfl⟩
                      go_wp2_with fail
                      refine (H2.out _).mono ?_
                      rintro e w' ⟨rfl, rfl⟩
                      go_wp2_with fail
                      refine (H4.out _).mono ?_
                      rintro e w' ⟨rfl, rfl⟩
                      go_wp2_with fail
                      refine (H5.out _).mono ?_
                      rintro e w' ⟨rfl, rfl⟩
                      go_wp2_with fail
                      refine (H6.out _).mono ?_
                      rintro e w' ⟨rfl, rfl⟩
                      go_wp2_with fail
                      refine (H7.out _).mono ?_
                      rintro e w' ⟨rfl, rfl⟩
                      go_wp2_with fail
                      go_ret
                      exact ⟨by rw [← HE.out]; rfl, HB.out⟩
                    | true =>
                      rw [h7] at H7
                      cases h8 : wthB u 1 4294967296 with
                      | false =>
                        rw [h8] at H8
                        have HE := Lib.hid (errR_no (show rok a b k x o n t u = false by unfold rok; rw [h1, h2, h3, h4, h5, h6, h9, h10, h7, h8]; simp))
                        clear h1 h2 h3 h4 h5 h6 hk h9 h10 ho hn h7 h8
                        go_enter Tryz.func101, Tryz.ntmps101
                        go_wp2_with fail
                        refine (H1.out _).mono ?_
                        rintro e w' ⟨rfl, rfl⟩
                        go_wp2_with fail
                        refine (H2.out _).mono ?_
                        rintro e w' ⟨rfl, rfl⟩
                        go_wp2_with fail
                        refine (H4.out _).mono ?_
                        rintro e w' ⟨rfl, rfl⟩
                        go_wp2_with fail
                        refine (H5.out _).mono ?_
                        rintro e w' ⟨rfl, rfl⟩
                        go_wp2_with fail
                        refine (H6.out _).mono ?_
                        rintro e w' ⟨rfl, rfl⟩
                        go_wp2_with fail
                        refine (H7.out _).mono ?_
                        rintro e w' ⟨rfl, rfl⟩
                        go_wp2_with fail
                        refine (H8.out _).mono ?_
                        rintro e w' ⟨rfl, rfl⟩
                        go_wp2_with fail
                        go_ret
                        exact ⟨by rw [← HE.out]; rfl, HB.out⟩
                      | true =>
                        rw [h8] at H8
                        have HE := Lib.hid (errR_yes (show rok a b k x o n t u = true by unfold rok; rw [h1, h2, h3, h4, h5, h6, h9, h10, h7, h8]; simp))
                        clear h1 h2 h3 h4 h5 h6 hk h9 h10 ho hn h7 h8
                        go_enter Tryz.func101, Tryz.ntmps101
                        go_wp2_with fail
                        refine (H1.out _).mono ?_
                        rintro e w' ⟨rfl, rfl⟩
                        go_wp2_with fail
                        refine (H2.out _).mono ?_
                        rintro e w' ⟨rfl, rfl⟩
                        go_wp2_with fail
                        refine (H4.out _).mono ?_
                        rintro e w' ⟨rfl, rfl⟩
                        go_wp2_with fail
                        refine (H5.out _).mono ?_
                        rintro e w' ⟨rfl, rfl⟩
                        go_wp2_with fail
                        refine (H6.out _).mono ?_
                        rintro e w' ⟨rfl, rfl⟩
                        go_wp2_with fail
                        refine (H7.out _).mono ?_
                        rintro e w' ⟨rfl, rfl⟩
                        go_wp2_with fail
                        refine (H8.out _).mono ?_
                        rintro e w' ⟨rfl, rfl⟩
                        go_wp2_with fail
                        go_ret
                        exact ⟨by rw [← HE.out]; rfl, HB.out⟩
                · have h9 : decide (o.size = 0) = false := decide_eq_false ho
                  have ho1 := not_empty ho
                  have ho2 := not_empty2 ho
                  have ho3 : ¬ o.toList = [] := fun e => ho ((sz_list o).1 e)
                  cases h7 : wthB t 0 524288 with
                  | false =>
                    rw [h7] at H7
                    have HE := Lib.hid (errR_no (show rok a b k x o n t u = false by unfold rok; rw [h1, h2, h3, h4, h5, h6, h9, h7]; simp))
                    clear h1 h2 h3 h4 h5 h6 hk h9 ho h7
                    go_enter Tryz.func101, Tryz.ntmps101
                    go_wp2_with fail
                    refine (H1.out _).mono ?_
                    rintro e w' ⟨rfl, rfl⟩
                    go_wp2_with fail
                    refine (H2.out _).mono ?_
                    rintro e w' ⟨rfl, rfl⟩
                    go_wp2_with fail
                    refine (H4.out _).mono ?_
                    rintro e w' ⟨rfl, rfl⟩
                    go_wp2_with fail
                    refine (H5.out _).mono ?_
                    rintro e w' ⟨rfl, rfl⟩
                    go_wp2_with fail
                    refine (H6.out _).mono ?_
                    rintro e w' ⟨rfl, rfl⟩
                    go_wp2_with fail
                    refine (H7.out _).mono ?_
                    rintro e w' ⟨rfl, rfl⟩
                    go_wp2_with fail
                    go_ret
                    exact ⟨by rw [← HE.out]; rfl, HB.out⟩
                  | true =>
                    rw [h7] at H7
                    cases h8 : wthB u 1 4294967296 with
                    | false =>
                      rw [h8] at H8
                      have HE := Lib.hid (errR_no (show rok a b k x o n t u = false by unfold rok; rw [h1, h2, h3, h4, h5, h6, h9, h7, h8]; simp))
                      clear h1 h2 h3 h4 h5 h6 hk h9 ho h7 h8
                      go_enter Tryz.func101, Tryz.ntmps101
                      go_wp2_with fail
                      refine (H1.out _).mono ?_
                      rintro e w' ⟨rfl, rfl⟩
                      go_wp2_with fail
                      refine (H2.out _).mono ?_
                      rintro e w' ⟨rfl, rfl⟩
                      go_wp2_with fail
                      refine (H4.out _).mono ?_
                      rintro e w' ⟨rfl, rfl⟩
                      go_wp2_with fail
                      refine (H5.out _).mono ?_
                      rintro e w' ⟨rfl, rfl⟩
                      go_wp2_with fail
                      refine (H6.out _).mono ?_
                      rintro e w' ⟨rfl, rfl⟩
                      go_wp2_with fail
                      refine (H7.out _).mono ?_
                      rintro e w' ⟨rfl, rfl⟩
                      go_wp2_with fail
                      refine (H8.out _).mono ?_
                      rintro e w' ⟨rfl, rfl⟩
                      go_wp2_with fail
                      go_ret
                      exact ⟨by rw [← HE.out]; rfl, HB.out⟩
                    | true =>
                      rw [h8] at H8
                      have HE := Lib.hid (errR_yes (show rok a b k x o n t u = true by unfold rok; rw [h1, h2, h3, h4, h5, h6, h9, h7, h8]; simp))
                      clear h1 h2 h3 h4 h5 h6 hk h9 ho h7 h8
                      go_enter Tryz.func101, Tryz.ntmps101
                      go_wp2_with fail
                      refine (H1.out _).mono ?_
                      rintro e w' ⟨rfl, rfl⟩
                      go_wp2_with fail
                      refine (H2.out _).mono ?_
                      rintro e w' ⟨rfl, rfl⟩
                      go_wp2_with fail
                      refine (H4.out _).mono ?_
                      rintro e w' ⟨rfl, rfl⟩
                      go_wp2_with fail
                      refine (H5.out _).mono ?_
                      rintro e w' ⟨rfl, rfl⟩
                      go_wp2_with fail
                      refine (H6.out _).mono ?_
                      rintro e w' ⟨rfl, rfl⟩
                      go_wp2_with fail
                      refine (H7.out _).mono ?_
                      rintro e w' ⟨rfl, rfl⟩
                      go_wp2_with fail
                      refine (H8.out _).mono ?_
                      rintro e w' ⟨rfl, rfl⟩
                      go_wp2_with fail
                      go_ret
                      exact ⟨by rw [← HE.out]; rfl, HB.out⟩
      · have h3 : wthB k 1 2 = false := by unfold wthB; rw [Bool.eq_false_iff]; intro g; simp at g; omega
        have g1 : (k == 1) = false := by simp; omega
        have g2 : (k == 2) = false := by simp; omega
        have g3 : (k != 1) = true := by simp; omega
        have g4 : (k != 2) = true := by simp; omega
        have HE := Lib.hid (errR_no (show rok a b k x o n t u = false by unfold rok; rw [h1, h2, h3]; simp))
        clear h1 h2 h3 hk
        go_enter Tryz.func101, Tryz.ntmps101
        go_wp2_with fail
        refine (H1.out _).mono ?_
        rintro e w' ⟨rfl, rfl⟩
        go_wp2_with fail
        refine (H2.out _).mono ?_
        rintro e w' ⟨rfl, rfl⟩
        go_wp2_with fail
        go_ret
        exact ⟨by rw [← HE.out]; rfl, HB.out⟩
end Go.Proofs.YtiflieaemgamkaaGreatDoor
