/- The walk of FactsOrder over this translation. Condition: a slice that is no longer than a slice may be, texts that are no longer than a text may be. -/
import Derived.Test.YtjnichiblljmjaaIo
import Derived.Test.YtjnichiblljmjaaIf
namespace Go.Proofs.Ytjnichiblljmjaa.LFactsOrder
open Go.RowKit Vi

theorem cmpI_flip (a b : Int) : cmpI b a = - cmpI a b := by
  unfold cmpI
  split <;> split <;> (try split) <;> omega
theorem cmpS_flip (s t : ByteArray) : cmpS t s = - cmpS s t := by
  unfold cmpS
  cases h1 : Op.bytesLess s.toList t.toList <;> cases h2 : Op.bytesLess t.toList s.toList
  · rfl
  · rfl
  · rfl
  · exact absurd (bl_trans _ _ _ h1 h2) (by rw [bl_irrefl]; simp)
theorem cmpI_abs (a b : Int) : -1 ≤ cmpI a b ∧ cmpI a b ≤ 1 := by
  unfold cmpI
  split <;> (try split) <;> omega
theorem cmpS_abs (s t : ByteArray) : -1 ≤ cmpS s t ∧ cmpS s t ≤ 1 := by
  unfold cmpS
  split <;> (try split) <;> omega
theorem orL3 (p q r : Int) : orL [-p, -q, -r] = - orL [p, q, r] := by
  by_cases hp : p = 0 <;> by_cases hq : q = 0 <;> by_cases hr : r = 0 <;> simp [orL, hp, hq, hr]
theorem cmpF_flip (a b : Fc) : cmpF b a = - cmpF a b := by
  unfold cmpF
  rw [cmpI_flip a.1 b.1, cmpS_flip a.2.1 b.2.1, cmpS_flip a.2.2.1 b.2.2.1]
  exact orL3 _ _ _
theorem cmpF_abs (a b : Fc) : -1 ≤ cmpF a b ∧ cmpF a b ≤ 1 := by
  have h1 := cmpI_abs a.1 b.1
  have h2 := cmpS_abs a.2.1 b.2.1
  have h3 := cmpS_abs a.2.2.1 b.2.2.1
  unfold cmpF orL orL orL orL
  split
  · exact h1
  · split
    · exact h2
    · split
      · exact h3
      · omega
/-- how two facts stand -/
theorem three (a b : Fc) : (lessF a b = true ∧ lessF b a = false ∧ cmpF a b = -1) ∨ (lessF a b = false ∧ lessF b a = true ∧ cmpF a b = 1) ∨ (lessF a b = false ∧ lessF b a = false ∧ cmpF a b = 0) := by
  have h1 := cmpF_lt a b
  have h2 := cmpF_lt b a
  have h3 := cmpF_flip a b
  have h4 := cmpF_abs a b
  rw [h3] at h2
  cases k1 : lessF a b <;> cases k2 : lessF b a
  · exact Or.inr (Or.inr ⟨rfl, rfl, by
      rw [k1] at h1; rw [k2] at h2
      have q1 : ¬ cmpF a b < 0 := fun q => by simpa using h1.mp q
      have q2 : ¬ - cmpF a b < 0 := fun q => by simpa using h2.mp q
      omega⟩)
  · exact Or.inr (Or.inl ⟨rfl, rfl, by have := h2.mpr k2; omega⟩)
  · exact Or.inl ⟨rfl, rfl, by have := h1.mpr k1; omega⟩
  · have := h1.mpr k1; have := h2.mpr k2; omega
set_option maxRecDepth 100000 in
set_option maxHeartbeats 4000000 in
theorem walk (A : Option Addr) (n c : Nat) (l : List Fc) (P Q : ByteArray) (w : World) (h : RdX fcC 4 w A n l) (hm : n ≤ maxLen) :
    Calls Try.prog 7 #[.slice A n c, .string P, .string Q] w fun e w' => e = .returned (.bool true) ∧ Below w.heap.size w w' := by
  have H := Lib.hid h
  have LL := Lib.hid h.1
  have HFW := Lib.hid (fun (W : World) (q : RdX fcC 4 W A n l) => few27_any A n c l W q hm)
  unfold maxLen at hm
  clear h
  go_enter Try.func7, Try.ntmps7
  go_wp2_with fail
  refine (HFW.out w H.out).mono ?_
  rintro e w1 ⟨b, rfl, hb120, hb⟩
  have HB := Lib.hid hb
  clear hb
  cases b with
  | false =>
    go_wp2_with fail
    refine (awake27 _).mono ?_
    rintro e w9 ⟨rfl, hb9⟩
    have HB9 := Lib.hid (HB.out.trans (hb9.mono HB.out.size))
    clear hb9
    go_wp2_with fail
    go_ret
    exact ⟨rfl, HB9.out⟩
  | true =>
    have hn := hb120 rfl
    clear hb120
    by_cases g1 : P.size ≤ 100
    rotate_left
    · have d1 : decide ((100 : Int) < (P.size : Int)) = true := decide_eq_true (by omega)
      go_wp2_with fail
      refine (awake27 _).mono ?_
      rintro e w9 ⟨rfl, hb9⟩
      have HB9 := Lib.hid (HB.out.trans (hb9.mono HB.out.size))
      clear hb9
      go_wp2_with fail
      go_ret
      exact ⟨rfl, HB9.out⟩
    have d1 : decide ((100 : Int) < (P.size : Int)) = false := decide_eq_false (by omega)
    by_cases g2 : Q.size ≤ 100
    rotate_left
    · have d2 : decide ((100 : Int) < (Q.size : Int)) = true := decide_eq_true (by omega)
      go_wp2_with fail
      refine (awake27 _).mono ?_
      rintro e w9 ⟨rfl, hb9⟩
      have HB9 := Lib.hid (HB.out.trans (hb9.mono HB.out.size))
      clear hb9
      go_wp2_with fail
      go_ret
      exact ⟨rfl, HB9.out⟩
    have d2 : decide ((100 : Int) < (Q.size : Int)) = false := decide_eq_false (by omega)
    go_wp2_with fail
    go_loopw [7] (fun i wr => ∃ j k : Nat, i = .int .i64 (k : Int) ∧ k = j + 1 ∧ Below w.heap.size w wr) (fun i _ => n + 1 - (intOf i).toNat)
    case atStart => exact ⟨0, 1, rfl, rfl, HB.out⟩
    case round =>
      clear HB
      obtain ⟨j, k, rfl, hkj, hb⟩ := hrel
      have HB := Lib.hid hb
      clear hb
      by_cases hlt : k < n
      · have hd1 : decide ((k : Int) < (n : Int)) = true := decide_eq_true (by omega)
        have hl0 : j < l.length := by rw [LL.out]; omega
        have hl1 : k < l.length := by rw [LL.out]; omega
        have hjn : j < n := by omega
        obtain ⟨b, off, _, rfl, hbb, _⟩ := (H.out.below HB.out).at hlt
        obtain ⟨x, hx⟩ : ∃ x, l[j] = x := ⟨_, rfl⟩
        obtain ⟨y, hy⟩ : ∃ y, l[k] = y := ⟨_, rfl⟩
        have HX := Lib.hid (show l[j]? = some x by rw [List.getElem?_eq_getElem hl0, hx])
        have HY := Lib.hid (show l[k]? = some y by rw [List.getElem?_eq_getElem hl1, hy])
        clear hx hy
        obtain ⟨x1, x2, x3, x4⟩ := x
        obtain ⟨y1, y2, y3, y4⟩ := y
        have HT := three (x1, x2, x3, x4) (y1, y2, y3, y4)
        have HF := Lib.hid (fun W : World => fcmp_any x1 x2 x3 x4 y1 y2 y3 y4 W)
        have HL1 := Lib.hid (fun W : World => rless_any x1 x2 x3 x4 y1 y2 y3 y4 W)
        have HL2 := Lib.hid (fun W : World => rless_any y1 y2 y3 y4 x1 x2 x3 x4 W)
        have hi0 : (0 : Int) ≤ (k : Int) := by omega
        have hi1 : (0 : Int) ≤ (j : Int) := by omega
        have hi2 : (j : Int) < (n : Int) := by omega
        have hi3 : (k : Int) < (n : Int) := by omega
        have hw : IntKind.i64.wrap ((k : Int) - 1) = (j : Int) := by rw [IntWalk.i64_in _ (by omega)]; omega
        have hw2 : (k : Int) - 1 = (j : Int) := by omega
        have HW := Lib.hid hw
        have HW2 := Lib.hid hw2
        have HKJ := Lib.hid hkj
        clear hkj hw hw2
        rcases HT with ⟨t1, t2, t3⟩ | ⟨t1, t2, t3⟩ | ⟨t1, t2, t3⟩
        all_goals
          rw [t1] at HL1
          rw [t2] at HL2
          rw [t3] at HF
          clear t1 t2 t3
          go_wp2_with fail
          have hw := HW.out
          have a0 : wr.cell? ⟨b, off + j * 4, none⟩ = some (.int .i64 x1) := (H.out.below HB.out).cellAt HX.out hjn 0 _ rfl
          have a1 : wr.cell? ⟨b, off + j * 4 + 1, none⟩ = some (.string x2) := (H.out.below HB.out).cellAt HX.out hjn 1 _ rfl
          have a2 : wr.cell? ⟨b, off + j * 4 + 2, none⟩ = some (.string x3) := (H.out.below HB.out).cellAt HX.out hjn 2 _ rfl
          have a3 : wr.cell? ⟨b, off + j * 4 + 3, none⟩ = some (.string x4) := (H.out.below HB.out).cellAt HX.out hjn 3 _ rfl
          have b0 : wr.cell? ⟨b, off + k * 4, none⟩ = some (.int .i64 y1) := (H.out.below HB.out).cellAt HY.out hlt 0 _ rfl
          have b1 : wr.cell? ⟨b, off + k * 4 + 1, none⟩ = some (.string y2) := (H.out.below HB.out).cellAt HY.out hlt 1 _ rfl
          have b2 : wr.cell? ⟨b, off + k * 4 + 2, none⟩ = some (.string y3) := (H.out.below HB.out).cellAt HY.out hlt 2 _ rfl
          have b3 : wr.cell? ⟨b, off + k * 4 + 3, none⟩ = some (.string y4) := (H.out.below HB.out).cellAt HY.out hlt 3 _ rfl
          have ra0 := fun d os => cell_regrown a0 d os
          have ra1 := fun d os => cell_regrown a1 d os
          have ra2 := fun d os => cell_regrown a2 d os
          have ra3 := fun d os => cell_regrown a3 d os
          have rb0 := fun d os => cell_regrown b0 d os
          have rb1 := fun d os => cell_regrown b1 d os
          have rb2 := fun d os => cell_regrown b2 d os
          have rb3 := fun d os => cell_regrown b3 d os
          try go_wp2_with fail
          refine wp_region_quiet_below (by kernel_rfl) (by kernel_rfl) ?_
          repeat (any_goals (first | go_big_quiet_step ((go_at_call 35; with_reducible exact Calls.regrown_of (HL1.out _))) | quiet_step ((go_at_call 35; with_reducible exact Calls.regrown_of (HL1.out _)))))
          refine wpQuiet_nil ?_
          intro w2 hw1
          have hb1 := below_anyY hw1
          clear hw1 ra0 ra1 ra2 ra3 rb0 rb1 rb2 rb3
          clear a0 a1 a2 a3 b0 b1 b2 b3 hw
          have HB2 := Lib.hid (HB.out.trans (hb1.mono HB.out.size))
          clear hb1
          go_wp2_with fail
          have hw := HW.out
          have a0 : w2.cell? ⟨b, off + j * 4, none⟩ = some (.int .i64 x1) := (H.out.below HB2.out).cellAt HX.out hjn 0 _ rfl
          have a1 : w2.cell? ⟨b, off + j * 4 + 1, none⟩ = some (.string x2) := (H.out.below HB2.out).cellAt HX.out hjn 1 _ rfl
          have a2 : w2.cell? ⟨b, off + j * 4 + 2, none⟩ = some (.string x3) := (H.out.below HB2.out).cellAt HX.out hjn 2 _ rfl
          have a3 : w2.cell? ⟨b, off + j * 4 + 3, none⟩ = some (.string x4) := (H.out.below HB2.out).cellAt HX.out hjn 3 _ rfl
          have b0 : w2.cell? ⟨b, off + k * 4, none⟩ = some (.int .i64 y1) := (H.out.below HB2.out).cellAt HY.out hlt 0 _ rfl
          have b1 : w2.cell? ⟨b, off + k * 4 + 1, none⟩ = some (.string y2) := (H.out.below HB2.out).cellAt HY.out hlt 1 _ rfl
          have b2 : w2.cell? ⟨b, off + k * 4 + 2, none⟩ = some (.string y3) := (H.out.below HB2.out).cellAt HY.out hlt 2 _ rfl
          have b3 : w2.cell? ⟨b, off + k * 4 + 3, none⟩ = some (.string y4) := (H.out.below HB2.out).cellAt HY.out hlt 3 _ rfl
          have ra0 := fun d os => cell_regrown a0 d os
          have ra1 := fun d os => cell_regrown a1 d os
          have ra2 := fun d os => cell_regrown a2 d os
          have ra3 := fun d os => cell_regrown a3 d os
          have rb0 := fun d os => cell_regrown b0 d os
          have rb1 := fun d os => cell_regrown b1 d os
          have rb2 := fun d os => cell_regrown b2 d os
          have rb3 := fun d os => cell_regrown b3 d os
          refine wp_region_quiet_below (by kernel_rfl) (by kernel_rfl) ?_
          repeat (any_goals (first | go_big_quiet_step ((go_at_call 35; with_reducible exact Calls.regrown_of (HL2.out _))) | quiet_step ((go_at_call 35; with_reducible exact Calls.regrown_of (HL2.out _)))))
          refine wpQuiet_nil ?_
          intro w3 hw1
          have hb1 := below_anyY hw1
          clear hw1 ra0 ra1 ra2 ra3 rb0 rb1 rb2 rb3
          clear a0 a1 a2 a3 b0 b1 b2 b3 hw
          have HB3 := Lib.hid (HB2.out.trans (hb1.mono HB2.out.size))
          clear hb1
          go_wp2_with fail
          have hw := HW.out
          have a0 : w3.cell? ⟨b, off + j * 4, none⟩ = some (.int .i64 x1) := (H.out.below HB3.out).cellAt HX.out hjn 0 _ rfl
          have a1 : w3.cell? ⟨b, off + j * 4 + 1, none⟩ = some (.string x2) := (H.out.below HB3.out).cellAt HX.out hjn 1 _ rfl
          have a2 : w3.cell? ⟨b, off + j * 4 + 2, none⟩ = some (.string x3) := (H.out.below HB3.out).cellAt HX.out hjn 2 _ rfl
          have a3 : w3.cell? ⟨b, off + j * 4 + 3, none⟩ = some (.string x4) := (H.out.below HB3.out).cellAt HX.out hjn 3 _ rfl
          have b0 : w3.cell? ⟨b, off + k * 4, none⟩ = some (.int .i64 y1) := (H.out.below HB3.out).cellAt HY.out hlt 0 _ rfl
          have b1 : w3.cell? ⟨b, off + k * 4 + 1, none⟩ = some (.string y2) := (H.out.below HB3.out).cellAt HY.out hlt 1 _ rfl
          have b2 : w3.cell? ⟨b, off + k * 4 + 2, none⟩ = some (.string y3) := (H.out.below HB3.out).cellAt HY.out hlt 2 _ rfl
          have b3 : w3.cell? ⟨b, off + k * 4 + 3, none⟩ = some (.string y4) := (H.out.below HB3.out).cellAt HY.out hlt 3 _ rfl
          have ra0 := fun d os => cell_regrown a0 d os
          have ra1 := fun d os => cell_regrown a1 d os
          have ra2 := fun d os => cell_regrown a2 d os
          have ra3 := fun d os => cell_regrown a3 d os
          have rb0 := fun d os => cell_regrown b0 d os
          have rb1 := fun d os => cell_regrown b1 d os
          have rb2 := fun d os => cell_regrown b2 d os
          have rb3 := fun d os => cell_regrown b3 d os
          refine wp_region_quiet_below (by kernel_rfl) (by kernel_rfl) ?_
          repeat (any_goals (first | go_big_quiet_step ((go_at_call 36; with_reducible exact Calls.regrown_of (HF.out _))) | quiet_step ((go_at_call 36; with_reducible exact Calls.regrown_of (HF.out _)))))
          refine wpQuiet_nil ?_
          intro w4 hw1
          have hb1 := below_anyY hw1
          clear hw1 ra0 ra1 ra2 ra3 rb0 rb1 rb2 rb3
          clear a0 a1 a2 a3 b0 b1 b2 b3 hw
          have HB4 := Lib.hid (HB3.out.trans (hb1.mono HB3.out.size))
          clear hb1
          go_wp2_with fail
          go_roundw
          case rel => exact ⟨k, k + 1, by go_num, rfl, HB4.out⟩
          case measure => simp [intOf] <;> omega
      · have hd1 : decide ((k : Int) < (n : Int)) = false := decide_eq_false (by omega)
        have hsz0 : (⟨#[0]⟩ : ByteArray).size = 1 := rfl
        have HE := Lib.hid (fun W : World => fends_any P Q W (by omega) (by omega))
        have HP1 := Lib.hid (fun W : World => fparted_any P W (by omega))
        have HP2 := Lib.hid (fun W : World => rparted_any P W (by omega))
        obtain ⟨S1, hS1⟩ : ∃ S : ByteArray, S = P ++ ⟨#[0]⟩ := ⟨_, rfl⟩
        obtain ⟨S, hS⟩ : ∃ S : ByteArray, S = S1 ++ Q := ⟨_, rfl⟩
        have y1 : S1.size = P.size + 1 := by rw [hS1, ByteArray.size_append, hsz0]
        have y2 : S.size = S1.size + Q.size := by rw [hS, ByteArray.size_append]
        have q1 : ∀ W, (Op.stringOp .add P ⟨#[0]⟩).run Try.prog W = .ok (.string S1) W := fun W => by rw [hS1]; exact run_string_add_sum W _ _ (by omega)
        have q2 : ∀ W, (Op.stringOp .add S1 Q).run Try.prog W = .ok (.string S) W := fun W => by rw [hS]; exact run_string_add_sum W _ _ (by omega)
        have HQ1 := Lib.hid (fun W : World => fparted_any S W (by omega))
        have HQ2 := Lib.hid (fun W : World => rparted_any S W (by omega))
        rw [← hS1, ← hS] at HE
        clear hS1 hS y1 y2 hsz0
        have HR1 := Lib.hid (fun (W : World) (q : RdX fcC 4 W A n l) => frise_any A n c l W q (by omega))
        have HR2 := Lib.hid (fun (W : World) (q : RdX fcC 4 W A n l) => rrises_any A n c l W q (by omega))
        generalize partA P = pa at *
        generalize partB P = pb at *
        generalize partA S = sa at *
        generalize partB S = sb at *
        have e0 : (S.toList == S.toList) = true := by simp
        have e1 : (pa.toList == pa.toList) = true := by simp
        have e2 : (pb.toList == pb.toList) = true := by simp
        have e3 : (sa.toList == sa.toList) = true := by simp
        have e4 : (sb.toList == sb.toList) = true := by simp
        cases hr : risesF l
        case' true => rw [riseE_yes hr] at HR1
        case' false => rw [riseE_no hr] at HR1
        all_goals
          rw [hr] at HR2
          clear hr
          go_wp2_with fail
          refine (HE.out _).mono ?_
          rintro e w' ⟨rfl, rfl⟩
          go_wp2_with fail
          refine (HQ1.out _).mono ?_
          rintro e v0 ⟨rfl, hb⟩
          have HC0 := Lib.hid (HB.out.trans (hb.mono HB.out.size))
          clear hb
          go_wp2_with fail
          refine (HQ2.out _).mono ?_
          rintro e v1 ⟨rfl, hb⟩
          have HC1 := Lib.hid (HC0.out.trans (hb.mono HC0.out.size))
          clear hb
          go_wp2_with fail
          refine (HP1.out _).mono ?_
          rintro e v2 ⟨rfl, hb⟩
          have HC2 := Lib.hid (HC1.out.trans (hb.mono HC1.out.size))
          clear hb
          go_wp2_with fail
          refine (HP2.out _).mono ?_
          rintro e v3 ⟨rfl, hb⟩
          have HC3 := Lib.hid (HC2.out.trans (hb.mono HC2.out.size))
          clear hb
          go_wp2_with fail
          refine (HR1.out _ (H.out.below HC3.out)).mono ?_
          rintro e v4 ⟨rfl, hb⟩
          have HC4 := Lib.hid (HC3.out.trans (hb.mono HC3.out.size))
          clear hb
          go_wp2_with fail
          refine (HR2.out _ (H.out.below HC4.out)).mono ?_
          rintro e v5 ⟨rfl, hb⟩
          have HC5 := Lib.hid (HC4.out.trans (hb.mono HC4.out.size))
          clear hb
          go_wp2_with fail
          refine (awake27 _).mono ?_
          rintro e v6 ⟨rfl, hb⟩
          have HC6 := Lib.hid (HC5.out.trans (hb.mono HC5.out.size))
          clear hb
          go_wp2_with fail
          go_ret
          exact ⟨rfl, HC6.out⟩
end Go.Proofs.Ytjnichiblljmjaa.LFactsOrder
