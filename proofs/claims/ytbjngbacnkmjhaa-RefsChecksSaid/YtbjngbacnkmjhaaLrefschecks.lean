/- The walk of RefsChecks over this translation. Condition: a slice that is no longer than a slice may be, texts that are no longer than a text may be. -/
import Derived.Test.YtbjngbacnkmjhaaRFg
namespace Go.Proofs.Ytbjngbacnkmjhaa.LRefsChecks
open Go.RowKit Vi

set_option maxRecDepth 100000 in
set_option maxHeartbeats 4000000 in
theorem walk (A : Option Addr) (n c : Nat) (l : List Rf) (w : World) (h : RdX rfC 3 w A n l) (hm : n ≤ maxLen) (hz : ∀ r ∈ l, r.2.1.size ≤ maxLen) :
    Calls Try.prog 10 #[.slice A n c] w fun e w' => e = .returned (.bool true) ∧ Below w.heap.size w w' := by
  have H := Lib.hid h
  have LL := Lib.hid h.1
  have HFW := Lib.hid (fun (W : World) (q : RdX rfC 3 W A n l) => rffew_any A n c l W q hm)
  have HCK := Lib.hid (fun (W : World) (q : RdX rfC 3 W A n l) => rfcheck_any A n c l W q hm hz)
  have HWR := Lib.hid (fun (W : World) (q : RdX rfC 3 W A n l) => rfwrong_any A n c l W q hm hz)
  generalize wrR l = wz at HCK HWR
  have ewz : (wz == wz) = true := by simp
  unfold maxLen at hm
  clear h hz
  go_enter Try.func10, Try.ntmps10
  go_wp2_with fail
  refine (HFW.out w H.out).mono ?_
  rintro e w1 ⟨b, rfl, hb70, hb⟩
  have HB := Lib.hid hb
  clear hb
  cases b with
  | false =>
    go_wp2_with fail
    refine (awake37 _).mono ?_
    rintro e w9 ⟨rfl, hb9⟩
    have HB9 := Lib.hid (HB.out.trans (hb9.mono HB.out.size))
    clear hb9
    go_wp2_with fail
    go_ret
    exact ⟨rfl, HB9.out⟩
  | true =>
    have hn := hb70 rfl
    clear hb70
    go_wp2_with fail
    go_loopw [3] (fun i wr => ∃ j k : Nat, i = .int .i64 (k : Int) ∧ k = j + 1 ∧ Below w.heap.size w wr) (fun i _ => n + 1 - (intOf i).toNat)
    case atStart => exact ⟨0, 1, rfl, rfl, HB.out⟩
    case round =>
      clear HB
      obtain ⟨j, k, rfl, hkj, hb⟩ := hrel
      have HB := Lib.hid hb
      clear hb
      by_cases hlt : k < n
      · have hd1 : decide ((k : Int) < (n : Int)) = true := decide_eq_true (by omega)
        have hl0 : j < l.length := by rw [LL.out]; omega
        have hl1 : k < l.length := by rw [LL.out]; omega
        have hjn : j < n := by omega
        obtain ⟨b, off, _, rfl, hbb, _⟩ := (H.out.below HB.out).at hlt
        obtain ⟨x, hx⟩ : ∃ x, l[j] = x := ⟨_, rfl⟩
        obtain ⟨y, hy⟩ : ∃ y, l[k] = y := ⟨_, rfl⟩
        have HX := Lib.hid (show l[j]? = some x by rw [List.getElem?_eq_getElem hl0, hx])
        have HY := Lib.hid (show l[k]? = some y by rw [List.getElem?_eq_getElem hl1, hy])
        clear hx hy
        obtain ⟨x1, x2, x3⟩ := x
        obtain ⟨y1, y2, y3⟩ := y
        have HT := cmpR_cases (x1, x2, x3) (y1, y2, y3)
        have HF := Lib.hid (fun W : World => rfcmp_any x1 x2 x3 y1 y2 y3 W)
        have HL1 := Lib.hid (fun W : World => rfless_any x1 x2 x3 y1 y2 y3 W)
        have HL2 := Lib.hid (fun W : World => rfless_any y1 y2 y3 x1 x2 x3 W)
        have hi0 : (0 : Int) ≤ (k : Int) := by omega
        have hi1 : (0 : Int) ≤ (j : Int) := by omega
        have hi2 : (j : Int) < (n : Int) := by omega
        have hi3 : (k : Int) < (n : Int) := by omega
        have hw : IntKind.i64.wrap ((k : Int) - 1) = (j : Int) := by rw [IntWalk.i64_in _ (by omega)]; omega
        have hw2 : (k : Int) - 1 = (j : Int) := by omega
        have HW := Lib.hid hw
        have HW2 := Lib.hid hw2
        have HKJ := Lib.hid hkj
        clear hkj hw hw2
        rcases HT with ⟨t1, t2, t3, -⟩ | ⟨t1, t2, t3, -⟩ | ⟨t1, t2, t3, -⟩
        all_goals
          rw [t1] at HL1
          rw [t2] at HL2
          rw [t3] at HF
          clear t1 t2 t3
          go_wp2_with fail
          have hw := HW.out
          have a0 : wr.cell? ⟨b, off + j * 3, none⟩ = some (.int .i64 x1) := (H.out.below HB.out).cellAt HX.out hjn 0 _ rfl
          have a1 : wr.cell? ⟨b, off + j * 3 + 1, none⟩ = some (.string x2) := (H.out.below HB.out).cellAt HX.out hjn 1 _ rfl
          have a2 : wr.cell? ⟨b, off + j * 3 + 2, none⟩ = some (.string x3) := (H.out.below HB.out).cellAt HX.out hjn 2 _ rfl
          have b0 : wr.cell? ⟨b, off + k * 3, none⟩ = some (.int .i64 y1) := (H.out.below HB.out).cellAt HY.out hlt 0 _ rfl
          have b1 : wr.cell? ⟨b, off + k * 3 + 1, none⟩ = some (.string y2) := (H.out.below HB.out).cellAt HY.out hlt 1 _ rfl
          have b2 : wr.cell? ⟨b, off + k * 3 + 2, none⟩ = some (.string y3) := (H.out.below HB.out).cellAt HY.out hlt 2 _ rfl
          have ra0 := fun d os => cell_regrown a0 d os
          have ra1 := fun d os => cell_regrown a1 d os
          have ra2 := fun d os => cell_regrown a2 d os
          have rb0 := fun d os => cell_regrown b0 d os
          have rb1 := fun d os => cell_regrown b1 d os
          have rb2 := fun d os => cell_regrown b2 d os
          try go_wp2_with fail
          refine wp_region_quiet_below (by kernel_rfl) (by kernel_rfl) ?_
          repeat (any_goals (first | go_big_quiet_step ((go_at_call 56; with_reducible exact Calls.regrown_of (HL1.out _))) | quiet_step ((go_at_call 56; with_reducible exact Calls.regrown_of (HL1.out _)))))
          refine wpQuiet_nil ?_
          intro w2 hw1
          have hb1 := below_anyY hw1
          clear hw1 ra0 ra1 ra2 rb0 rb1 rb2
          clear a0 a1 a2 b0 b1 b2 hw
          have HB2 := Lib.hid (HB.out.trans (hb1.mono HB.out.size))
          clear hb1
          go_wp2_with fail
          have hw := HW.out
          have a0 : w2.cell? ⟨b, off + j * 3, none⟩ = some (.int .i64 x1) := (H.out.below HB2.out).cellAt HX.out hjn 0 _ rfl
          have a1 : w2.cell? ⟨b, off + j * 3 + 1, none⟩ = some (.string x2) := (H.out.below HB2.out).cellAt HX.out hjn 1 _ rfl
          have a2 : w2.cell? ⟨b, off + j * 3 + 2, none⟩ = some (.string x3) := (H.out.below HB2.out).cellAt HX.out hjn 2 _ rfl
          have b0 : w2.cell? ⟨b, off + k * 3, none⟩ = some (.int .i64 y1) := (H.out.below HB2.out).cellAt HY.out hlt 0 _ rfl
          have b1 : w2.cell? ⟨b, off + k * 3 + 1, none⟩ = some (.string y2) := (H.out.below HB2.out).cellAt HY.out hlt 1 _ rfl
          have b2 : w2.cell? ⟨b, off + k * 3 + 2, none⟩ = some (.string y3) := (H.out.below HB2.out).cellAt HY.out hlt 2 _ rfl
          have ra0 := fun d os => cell_regrown a0 d os
          have ra1 := fun d os => cell_regrown a1 d os
          have ra2 := fun d os => cell_regrown a2 d os
          have rb0 := fun d os => cell_regrown b0 d os
          have rb1 := fun d os => cell_regrown b1 d os
          have rb2 := fun d os => cell_regrown b2 d os
          refine wp_region_quiet_below (by kernel_rfl) (by kernel_rfl) ?_
          repeat (any_goals (first | go_big_quiet_step ((go_at_call 56; with_reducible exact Calls.regrown_of (HL2.out _))) | quiet_step ((go_at_call 56; with_reducible exact Calls.regrown_of (HL2.out _)))))
          refine wpQuiet_nil ?_
          intro w3 hw1
          have hb1 := below_anyY hw1
          clear hw1 ra0 ra1 ra2 rb0 rb1 rb2
          clear a0 a1 a2 b0 b1 b2 hw
          have HB3 := Lib.hid (HB2.out.trans (hb1.mono HB2.out.size))
          clear hb1
          go_wp2_with fail
          have hw := HW.out
          have a0 : w3.cell? ⟨b, off + j * 3, none⟩ = some (.int .i64 x1) := (H.out.below HB3.out).cellAt HX.out hjn 0 _ rfl
          have a1 : w3.cell? ⟨b, off + j * 3 + 1, none⟩ = some (.string x2) := (H.out.below HB3.out).cellAt HX.out hjn 1 _ rfl
          have a2 : w3.cell? ⟨b, off + j * 3 + 2, none⟩ = some (.string x3) := (H.out.below HB3.out).cellAt HX.out hjn 2 _ rfl
          have b0 : w3.cell? ⟨b, off + k * 3, none⟩ = some (.int .i64 y1) := (H.out.below HB3.out).cellAt HY.out hlt 0 _ rfl
          have b1 : w3.cell? ⟨b, off + k * 3 + 1, none⟩ = some (.string y2) := (H.out.below HB3.out).cellAt HY.out hlt 1 _ rfl
          have b2 : w3.cell? ⟨b, off + k * 3 + 2, none⟩ = some (.string y3) := (H.out.below HB3.out).cellAt HY.out hlt 2 _ rfl
          have ra0 := fun d os => cell_regrown a0 d os
          have ra1 := fun d os => cell_regrown a1 d os
          have ra2 := fun d os => cell_regrown a2 d os
          have rb0 := fun d os => cell_regrown b0 d os
          have rb1 := fun d os => cell_regrown b1 d os
          have rb2 := fun d os => cell_regrown b2 d os
          refine wp_region_quiet_below (by kernel_rfl) (by kernel_rfl) ?_
          repeat (any_goals (first | go_big_quiet_step ((go_at_call 57; with_reducible exact Calls.regrown_of (HF.out _))) | quiet_step ((go_at_call 57; with_reducible exact Calls.regrown_of (HF.out _)))))
          refine wpQuiet_nil ?_
          intro w4 hw1
          have hb1 := below_anyY hw1
          clear hw1 ra0 ra1 ra2 rb0 rb1 rb2
          clear a0 a1 a2 b0 b1 b2 hw
          have HB4 := Lib.hid (HB3.out.trans (hb1.mono HB3.out.size))
          clear hb1
          go_wp2_with fail
          go_roundw
          case rel => exact ⟨k, k + 1, by go_num, rfl, HB4.out⟩
          case measure => simp [intOf] <;> omega
      · have hd1 : decide ((k : Int) < (n : Int)) = false := decide_eq_false (by omega)
        go_wp2_with fail
        refine (HCK.out _ (H.out.below HB.out)).mono ?_
        rintro e v0 ⟨rfl, hb⟩
        have HC0 := Lib.hid (HB.out.trans (hb.mono HB.out.size))
        clear hb
        go_wp2_with fail
        refine (HWR.out _ (H.out.below HC0.out)).mono ?_
        rintro e v1 ⟨rfl, hb⟩
        have HC1 := Lib.hid (HC0.out.trans (hb.mono HC0.out.size))
        clear hb
        go_wp2_with fail
        refine (awake37 _).mono ?_
        rintro e v2 ⟨rfl, hb⟩
        have HC2 := Lib.hid (HC1.out.trans (hb.mono HC1.out.size))
        clear hb
        go_wp2_with fail
        go_ret
        exact ⟨rfl, HC2.out⟩
end Go.Proofs.Ytbjngbacnkmjhaa.LRefsChecks
