/- The contract of the document's Is of layer 10 over this translation. Condition: texts that fit a string. -/
import Derived.Test.YtiflieaemgamkaaGreatDoorEa
namespace Go.Proofs.YtiflieaemgamkaaGreatDoor
open Go.RowKit Vi Cm

theorem wth_lo {x lo hi : Int} (h : x < lo) : wthB x lo hi = false := by unfold wthB; rw [decide_eq_false (by omega)]; rfl
theorem wth_hi {x lo hi : Int} (h : hi < x) : wthB x lo hi = false := by unfold wthB; rw [decide_eq_false (p := x ≤ hi) (by omega)]; simp
theorem wth_ok {x lo hi : Int} (h : ¬ x < lo) (h2 : ¬ hi < x) : wthB x lo hi = true := by unfold wthB; rw [decide_eq_true (by omega), decide_eq_true (p := x ≤ hi) (by omega)]; rfl
set_option maxRecDepth 100000 in
set_option maxHeartbeats 8000000 in
theorem ris_any (a b k : Int) (x o n : ByteArray) (t u : Int) (w : World) (hx : x.size ≤ maxLen) :
    Calls Tryz.prog 89 #[.agg #[.int .i64 a, .int .i64 b, .int .i64 k, .string x, .string o, .string n, .int .i64 t, .int .i64 u]] w fun e w' => e = .returned (.bool (rok a b k x o n t u)) ∧ Below w.heap.size w w' := by
  have H4 := Lib.hid (fun W : World => refIs_any x W hx)
  have H5 := Lib.hid (fun W : World => rhash_any o W)
  have H6 := Lib.hid (fun W : World => rhash_any n W)
  have HB := Lib.hid ((Below.refl w.heap.size w).alloc (Nat.le_refl _) (.cells #[.int .i64 a, .int .i64 b, .int .i64 k, .string x, .string o, .string n, .int .i64 t, .int .i64 u] 42 (0, 0)))
  clear hx
  by_cases l1 : a < 1
  · have h1 : wthB a 1 4294967295 = false := wth_lo l1
    have dl1 : decide (a < 1) = true := decide_eq_true l1
    have HE := Lib.hid (show false = rok a b k x o n t u by unfold rok; rw [h1]; simp)
    clear  h1 l1
    go_enter Tryz.func89, Tryz.ntmps89
    go_wp2_with fail
    go_ret
    exact ⟨retBY HE.out, HB.out⟩
  · by_cases g1 : 4294967295 < a
    · have h1 : wthB a 1 4294967295 = false := wth_hi g1
      have dl1 : decide (a < 1) = false := decide_eq_false l1
      have dg1 : decide (4294967295 < a) = true := decide_eq_true g1
      have HE := Lib.hid (show false = rok a b k x o n t u by unfold rok; rw [h1]; simp)
      clear  h1 l1 g1
      go_enter Tryz.func89, Tryz.ntmps89
      go_wp2_with fail
      go_ret
      exact ⟨retBY HE.out, HB.out⟩
    · have h1 : wthB a 1 4294967295 = true := wth_ok l1 g1
      have dl1 : decide (a < 1) = false := decide_eq_false l1
      have dg1 : decide (4294967295 < a) = false := decide_eq_false g1
      by_cases l2 : b < 0
      · have h2 : wthB b 0 4095 = false := wth_lo l2
        have dl2 : decide (b < 0) = true := decide_eq_true l2
        have HE := Lib.hid (show false = rok a b k x o n t u by unfold rok; rw [h1, h2]; simp)
        clear h1 l1 g1 h2 l2
        go_enter Tryz.func89, Tryz.ntmps89
        go_wp2_with fail
        go_ret
        exact ⟨retBY HE.out, HB.out⟩
      · by_cases g2 : 4095 < b
        · have h2 : wthB b 0 4095 = false := wth_hi g2
          have dl2 : decide (b < 0) = false := decide_eq_false l2
          have dg2 : decide (4095 < b) = true := decide_eq_true g2
          have HE := Lib.hid (show false = rok a b k x o n t u by unfold rok; rw [h1, h2]; simp)
          clear h1 l1 g1 h2 l2 g2
          go_enter Tryz.func89, Tryz.ntmps89
          go_wp2_with fail
          go_ret
          exact ⟨retBY HE.out, HB.out⟩
        · have h2 : wthB b 0 4095 = true := wth_ok l2 g2
          have dl2 : decide (b < 0) = false := decide_eq_false l2
          have dg2 : decide (4095 < b) = false := decide_eq_false g2
          by_cases l3 : k < 1
          · have h3 : wthB k 1 2 = false := wth_lo l3
            have dl3 : decide (k < 1) = true := decide_eq_true l3
            have HE := Lib.hid (show false = rok a b k x o n t u by unfold rok; rw [h1, h2, h3]; simp)
            clear h1 h2 l1 g1 l2 g2 h3 l3
            go_enter Tryz.func89, Tryz.ntmps89
            go_wp2_with fail
            go_ret
            exact ⟨retBY HE.out, HB.out⟩
          · by_cases g3 : 2 < k
            · have h3 : wthB k 1 2 = false := wth_hi g3
              have dl3 : decide (k < 1) = false := decide_eq_false l3
              have dg3 : decide (2 < k) = true := decide_eq_true g3
              have HE := Lib.hid (show false = rok a b k x o n t u by unfold rok; rw [h1, h2, h3]; simp)
              clear h1 h2 l1 g1 l2 g2 h3 l3 g3
              go_enter Tryz.func89, Tryz.ntmps89
              go_wp2_with fail
              go_ret
              exact ⟨retBY HE.out, HB.out⟩
            · have h3 : wthB k 1 2 = true := wth_ok l3 g3
              have dl3 : decide (k < 1) = false := decide_eq_false l3
              have dg3 : decide (2 < k) = false := decide_eq_false g3
              cases h4 : nm x with
              | false =>
                rw [h4] at H4
                have HE := Lib.hid (show false = rok a b k x o n t u by unfold rok; rw [h1, h2, h3, h4]; simp)
                clear h1 h2 h3 l1 g1 l2 g2 l3 g3 h4
                go_enter Tryz.func89, Tryz.ntmps89
                go_wp2_with fail
                refine (H4.out _).mono ?_
                rintro e w' ⟨rfl, rfl⟩
                go_wp2_with fail
                go_ret
                exact ⟨retBY HE.out, HB.out⟩
              | true =>
                rw [h4] at H4
                cases h5 : sumB o with
                | false =>
                  rw [h5] at H5
                  have HE := Lib.hid (show false = rok a b k x o n t u by unfold rok; rw [h1, h2, h3, h4, h5]; simp)
                  clear h1 h2 h3 l1 g1 l2 g2 l3 g3 h4 h5
                  go_enter Tryz.func89, Tryz.ntmps89
                  go_wp2_with fail
                  refine (H4.out _).mono ?_
                  rintro e w' ⟨rfl, rfl⟩
                  go_wp2_with fail
                  refine (H5.out _).mono ?_
                  rintro e w' ⟨rfl, rfl⟩
                  go_wp2_with fail
                  go_ret
                  exact ⟨retBY HE.out, HB.out⟩
                | true =>
                  rw [h5] at H5
                  cases h6 : sumB n with
                  | false =>
                    rw [h6] at H6
                    have HE := Lib.hid (show false = rok a b k x o n t u by unfold rok; rw [h1, h2, h3, h4, h5, h6]; simp)
                    clear h1 h2 h3 l1 g1 l2 g2 l3 g3 h4 h5 h6
                    go_enter Tryz.func89, Tryz.ntmps89
                    go_wp2_with fail
                    refine (H4.out _).mono ?_
                    rintro e w' ⟨rfl, rfl⟩
                    go_wp2_with fail
                    refine (H5.out _).mono ?_
                    rintro e w' ⟨rfl, rfl⟩
                    go_wp2_with fail
                    refine (H6.out _).mono ?_
                    rintro e w' ⟨rfl, rfl⟩
                    go_wp2_with fail
                    go_ret
                    exact ⟨retBY HE.out, HB.out⟩
                  | true =>
                    rw [h6] at H6
                    by_cases ho : o.size = 0
                    · have h9 : decide (o.size = 0) = true := decide_eq_true ho
                      by_cases hn : n.size = 0
                      · have h10 : decide (n.size = 0) = true := decide_eq_true hn
                        have HE := Lib.hid (show false = rok a b k x o n t u by unfold rok; rw [h1, h2, h3, h4, h5, h6, h9, h10]; simp)
                        have eo := sz_empty o ho
                        have en := sz_empty n hn
                        clear h1 h2 h3 l1 g1 l2 g2 l3 g3 h4 h5 h6 h9 h10 ho hn
                        subst eo en
                        go_enter Tryz.func89, Tryz.ntmps89
                        go_wp2_with fail
                        refine (H4.out _).mono ?_
                        rintro e w' ⟨rfl, rfl⟩
                        go_wp2_with fail
                        refine (H5.out _).mono ?_
                        rintro e w' ⟨rfl, rfl⟩
                        go_wp2_with fail
                        refine (H6.out _).mono ?_
                        rintro e w' ⟨rfl, rfl⟩
                        go_wp2_with fail
                        go_ret
                        exact ⟨retBY HE.out, HB.out⟩
                      · have h10 : decide (n.size = 0) = false := decide_eq_false hn
                        have hn1 := not_empty hn
                        have hn2 := not_empty2 hn
                        have hn3 : ¬ n.toList = [] := fun e => hn ((sz_list n).1 e)
                        have ho3 : o.toList = [] := (sz_list o).2 ho
                        have ho1 : (o.toList == []) = true := by rw [ho3]; rfl
                        have ho2 : o.toList.isEmpty = true := by rw [ho3]; rfl
                        by_cases l7 : t < 0
                        · have h7 : wthB t 0 524288 = false := wth_lo l7
                          have dl7 : decide (0 ≤ t) = false := decide_eq_false (by omega)
                          have HE := Lib.hid (show false = rok a b k x o n t u by unfold rok; rw [h1, h2, h3, h4, h5, h6, h9, h10, h7]; simp)
                          clear h1 h2 h3 l1 g1 l2 g2 l3 g3 h4 h5 h6 h9 h10 ho hn h7 l7
                          go_enter Tryz.func89, Tryz.ntmps89
                          go_wp2_with fail
                          refine (H4.out _).mono ?_
                          rintro e w' ⟨rfl, rfl⟩
                          go_wp2_with fail
                          refine (H5.out _).mono ?_
                          rintro e w' ⟨rfl, rfl⟩
                          go_wp2_with fail
                          refine (H6.out _).mono ?_
                          rintro e w' ⟨rfl, rfl⟩
                          go_wp2_with fail
                          go_ret
                          exact ⟨retBY HE.out, HB.out⟩
                        · by_cases g7 : 524288 < t
                          · have h7 : wthB t 0 524288 = false := wth_hi g7
                            have dl7 : decide (0 ≤ t) = true := decide_eq_true (by omega)
                            have dg7 : decide (t ≤ 524288) = false := decide_eq_false (by omega)
                            have HE := Lib.hid (show false = rok a b k x o n t u by unfold rok; rw [h1, h2, h3, h4, h5, h6, h9, h10, h7]; simp)
                            clear h1 h2 h3 l1 g1 l2 g2 l3 g3 h4 h5 h6 h9 h10 ho hn h7 l7 g7
                            go_enter Tryz.func89, Tryz.ntmps89
                            go_wp2_with fail
                            refine (H4.out _).mono ?_
                            rintro e w' ⟨rfl, rfl⟩
                            go_wp2_with fail
                            refine (H5.out _).mono ?_
                            rintro e w' ⟨rfl, rfl⟩
                            go_wp2_with fail
                            refine (H6.out _).mono ?_
                            rintro e w' ⟨rfl, rfl⟩
                            go_wp2_with fail
                            go_ret
                            exact ⟨retBY HE.out, HB.out⟩
                          · have h7 : wthB t 0 524288 = true := wth_ok l7 g7
                            have dl7 : decide (0 ≤ t) = true := decide_eq_true (by omega)
                            have dg7 : decide (t ≤ 524288) = true := decide_eq_true (by omega)
                            by_cases l8 : u < 1
                            · have h8 : wthB u 1 4294967296 = false := wth_lo l8
                              have dl8 : decide (1 ≤ u) = false := decide_eq_false (by omega)
                              have HE := Lib.hid (show false = rok a b k x o n t u by unfold rok; rw [h1, h2, h3, h4, h5, h6, h9, h10, h7, h8]; simp)
                              clear h1 h2 h3 l1 g1 l2 g2 l3 g3 h4 h5 h6 h9 h10 ho hn h7 l7 g7 h8 l8
                              go_enter Tryz.func89, Tryz.ntmps89
                              go_wp2_with fail
                              refine (H4.out _).mono ?_
                              rintro e w' ⟨rfl, rfl⟩
                              go_wp2_with fail
                              refine (H5.out _).mono ?_
                              rintro e w' ⟨rfl, rfl⟩
                              go_wp2_with fail
                              refine (H6.out _).mono ?_
                              rintro e w' ⟨rfl, rfl⟩
                              go_wp2_with fail
                              go_ret
                              exact ⟨retBY HE.out, HB.out⟩
                            · by_cases g8 : 4294967296 < u
                              · have h8 : wthB u 1 4294967296 = false := wth_hi g8
                                have dl8 : decide (1 ≤ u) = true := decide_eq_true (by omega)
                                have dg8 : decide (u ≤ 4294967296) = false := decide_eq_false (by omega)
                                have HE := Lib.hid (show false = rok a b k x o n t u by unfold rok; rw [h1, h2, h3, h4, h5, h6, h9, h10, h7, h8]; simp)
                                clear h1 h2 h3 l1 g1 l2 g2 l3 g3 h4 h5 h6 h9 h10 ho hn h7 l7 g7 h8 l8 g8
                                go_enter Tryz.func89, Tryz.ntmps89
                                go_wp2_with fail
                                refine (H4.out _).mono ?_
                                rintro e w' ⟨rfl, rfl⟩
                                go_wp2_with fail
                                refine (H5.out _).mono ?_
                                rintro e w' ⟨rfl, rfl⟩
                                go_wp2_with fail
                                refine (H6.out _).mono ?_
                                rintro e w' ⟨rfl, rfl⟩
                                go_wp2_with fail
                                go_ret
                                exact ⟨retBY HE.out, HB.out⟩
                              · have h8 : wthB u 1 4294967296 = true := wth_ok l8 g8
                                have dl8 : decide (1 ≤ u) = true := decide_eq_true (by omega)
                                have dg8 : decide (u ≤ 4294967296) = true := decide_eq_true (by omega)
                                have HE := Lib.hid (show true = rok a b k x o n t u by unfold rok; rw [h1, h2, h3, h4, h5, h6, h9, h10, h7, h8]; simp)
                                clear h1 h2 h3 l1 g1 l2 g2 l3 g3 h4 h5 h6 h9 h10 ho hn h7 h8 l7 g7 l8 g8
                                go_enter Tryz.func89, Tryz.ntmps89
                                go_wp2_with fail
                                refine (H4.out _).mono ?_
                                rintro e w' ⟨rfl, rfl⟩
                                go_wp2_with fail
                                refine (H5.out _).mono ?_
                                rintro e w' ⟨rfl, rfl⟩
                                go_wp2_with fail
                                refine (H6.out _).mono ?_
                                rintro e w' ⟨rfl, rfl⟩
                                go_wp2_with fail
                                go_ret
                                exact ⟨retBY HE.out, HB.out⟩
                    · have h9 : decide (o.size = 0) = false := decide_eq_false ho
                      have ho1 := not_empty ho
                      have ho2 := not_empty2 ho
                      have ho3 : ¬ o.toList = [] := fun e => ho ((sz_list o).1 e)
                      by_cases l7 : t < 0
                      · have h7 : wthB t 0 524288 = false := wth_lo l7
                        have dl7 : decide (0 ≤ t) = false := decide_eq_false (by omega)
                        have HE := Lib.hid (show false = rok a b k x o n t u by unfold rok; rw [h1, h2, h3, h4, h5, h6, h9, h7]; simp)
                        clear h1 h2 h3 l1 g1 l2 g2 l3 g3 h4 h5 h6 h9 ho h7 l7
                        go_enter Tryz.func89, Tryz.ntmps89
                        go_wp2_with fail
                        refine (H4.out _).mono ?_
                        rintro e w' ⟨rfl, rfl⟩
                        go_wp2_with fail
                        refine (H5.out _).mono ?_
                        rintro e w' ⟨rfl, rfl⟩
                        go_wp2_with fail
                        refine (H6.out _).mono ?_
                        rintro e w' ⟨rfl, rfl⟩
                        go_wp2_with fail
                        go_ret
                        exact ⟨retBY HE.out, HB.out⟩
                      · by_cases g7 : 524288 < t
                        · have h7 : wthB t 0 524288 = false := wth_hi g7
                          have dl7 : decide (0 ≤ t) = true := decide_eq_true (by omega)
                          have dg7 : decide (t ≤ 524288) = false := decide_eq_false (by omega)
                          have HE := Lib.hid (show false = rok a b k x o n t u by unfold rok; rw [h1, h2, h3, h4, h5, h6, h9, h7]; simp)
                          clear h1 h2 h3 l1 g1 l2 g2 l3 g3 h4 h5 h6 h9 ho h7 l7 g7
                          go_enter Tryz.func89, Tryz.ntmps89
                          go_wp2_with fail
                          refine (H4.out _).mono ?_
                          rintro e w' ⟨rfl, rfl⟩
                          go_wp2_with fail
                          refine (H5.out _).mono ?_
                          rintro e w' ⟨rfl, rfl⟩
                          go_wp2_with fail
                          refine (H6.out _).mono ?_
                          rintro e w' ⟨rfl, rfl⟩
                          go_wp2_with fail
                          go_ret
                          exact ⟨retBY HE.out, HB.out⟩
                        · have h7 : wthB t 0 524288 = true := wth_ok l7 g7
                          have dl7 : decide (0 ≤ t) = true := decide_eq_true (by omega)
                          have dg7 : decide (t ≤ 524288) = true := decide_eq_true (by omega)
                          by_cases l8 : u < 1
                          · have h8 : wthB u 1 4294967296 = false := wth_lo l8
                            have dl8 : decide (1 ≤ u) = false := decide_eq_false (by omega)
                            have HE := Lib.hid (show false = rok a b k x o n t u by unfold rok; rw [h1, h2, h3, h4, h5, h6, h9, h7, h8]; simp)
                            clear h1 h2 h3 l1 g1 l2 g2 l3 g3 h4 h5 h6 h9 ho h7 l7 g7 h8 l8
                            go_enter Tryz.func89, Tryz.ntmps89
                            go_wp2_with fail
                            refine (H4.out _).mono ?_
                            rintro e w' ⟨rfl, rfl⟩
                            go_wp2_with fail
                            refine (H5.out _).mono ?_
                            rintro e w' ⟨rfl, rfl⟩
                            go_wp2_with fail
                            refine (H6.out _).mono ?_
                            rintro e w' ⟨rfl, rfl⟩
                            go_wp2_with fail
                            go_ret
                            exact ⟨retBY HE.out, HB.out⟩
                          · by_cases g8 : 4294967296 < u
                            · have h8 : wthB u 1 4294967296 = false := wth_hi g8
                              have dl8 : decide (1 ≤ u) = true := decide_eq_true (by omega)
                              have dg8 : decide (u ≤ 4294967296) = false := decide_eq_false (by omega)
                              have HE := Lib.hid (show false = rok a b k x o n t u by unfold rok; rw [h1, h2, h3, h4, h5, h6, h9, h7, h8]; simp)
                              clear h1 h2 h3 l1 g1 l2 g2 l3 g3 h4 h5 h6 h9 ho h7 l7 g7 h8 l8 g8
                              go_enter Tryz.func89, Tryz.ntmps89
                              go_wp2_with fail
                              refine (H4.out _).mono ?_
                              rintro e w' ⟨rfl, rfl⟩
                              go_wp2_with fail
                              refine (H5.out _).mono ?_
                              rintro e w' ⟨rfl, rfl⟩
                              go_wp2_with fail
                              refine (H6.out _).mono ?_
                              rintro e w' ⟨rfl, rfl⟩
                              go_wp2_with fail
                              go_ret
                              exact ⟨retBY HE.out, HB.out⟩
                            · have h8 : wthB u 1 4294967296 = true := wth_ok l8 g8
                              have dl8 : decide (1 ≤ u) = true := decide_eq_true (by omega)
                              have dg8 : decide (u ≤ 4294967296) = true := decide_eq_true (by omega)
                              have HE := Lib.hid (show true = rok a b k x o n t u by unfold rok; rw [h1, h2, h3, h4, h5, h6, h9, h7, h8]; simp)
                              clear h1 h2 h3 l1 g1 l2 g2 l3 g3 h4 h5 h6 h9 ho h7 h8 l7 g7 l8 g8
                              go_enter Tryz.func89, Tryz.ntmps89
                              go_wp2_with fail
                              refine (H4.out _).mono ?_
                              rintro e w' ⟨rfl, rfl⟩
                              go_wp2_with fail
                              refine (H5.out _).mono ?_
                              rintro e w' ⟨rfl, rfl⟩
                              go_wp2_with fail
                              refine (H6.out _).mono ?_
                              rintro e w' ⟨rfl, rfl⟩
                              go_wp2_with fail
                              go_ret
                              exact ⟨retBY HE.out, HB.out⟩
end Go.Proofs.YtiflieaemgamkaaGreatDoor
