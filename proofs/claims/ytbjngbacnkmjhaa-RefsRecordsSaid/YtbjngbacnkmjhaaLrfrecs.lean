/- The walk of RefsRecords over this translation. Condition: a slice that is no longer than a slice may be, texts that are no longer than a text may be. -/
import Derived.Test.YtbjngbacnkmjhaaRFy
import Derived.Test.YtbjngbacnkmjhaaRFt
import Derived.Test.YtbjngbacnkmjhaaElu
namespace Go.Proofs.Ytbjngbacnkmjhaa.LRefsRecords
open Go.RowKit Vi

set_option maxRecDepth 100000 in
theorem run_eq_rc (a b c d e : Int) (s t u : ByteArray) (W : World) :
    (binOp .neq 110 (.agg #[.int .i64 a, .int .i64 b, .int .i64 c, .string s, .string t, .string u, .int .i64 d, .int .i64 e]) (.agg #[.int .i64 a, .int .i64 b, .int .i64 c, .string s, .string t, .string u, .int .i64 d, .int .i64 e])).run Try.prog W = .ok (.bool false) W := by
  simp [go_sem]
set_option maxRecDepth 100000 in
set_option maxHeartbeats 8000000 in
theorem walk (A : Option Addr) (n c : Nat) (l : List Rf) (ep tl nu : Int) (w : World) (h : RdX rfC 3 w A n l) (hm : n ≤ maxLen) (hz : ∀ r ∈ l, r.2.1.size ≤ maxLen) :
    Calls Try.prog 13 #[.slice A n c, .int .i64 ep, .int .i64 tl, .int .i64 nu] w fun e w' => e = .returned (.bool true) ∧ Below w.heap.size w w' := by
  have H := Lib.hid h
  have LL := Lib.hid h.1
  have HFW := Lib.hid (fun (W : World) (q : RdX rfC 3 W A n l) => rffew_any A n c l W q hm)
  have HWR := Lib.hid (fun (W : World) (q : RdX rfC 3 W A n l) => rfwrong_any A n c l W q hm hz)
  have HOK := Lib.hid (fun q : wrR l = 0 => wr_ok q)
  have HZR := Lib.hid (recF_sz ep tl nu l 0 hz)
  unfold maxLen at hm
  clear h hz
  go_enter Try.func13, Try.ntmps13
  go_wp2_with fail
  refine (HFW.out w H.out).mono ?_
  rintro e w1 ⟨b, rfl, hb70, hb⟩
  have HB := Lib.hid hb
  clear hb
  cases b with
  | false =>
    go_wp2_with fail
    refine (awake37 _).mono ?_
    rintro e w9 ⟨rfl, hb9⟩
    have HB9 := Lib.hid (HB.out.trans (hb9.mono HB.out.size))
    clear hb9
    go_wp2_with fail
    go_ret
    exact ⟨rfl, HB9.out⟩
  | true =>
    have hn := hb70 rfl
    clear hb70 HFW
    have HRC := Lib.hid (fun (W : World) (q : RdX rfC 3 W A n l) => rfrecs_any ep tl nu A n c l W q (by omega))
    have HHS := Lib.hid (fun (W : World) (q : RdX rfC 3 W A n l) => rfhashes_any A n c l W q (by omega))
    go_wp2_with fail
    refine (HRC.out _ (H.out.below HB.out)).mono ?_
    rintro e w2 ⟨v2, rfl, ho2, hb⟩
    have HB2 := Lib.hid (HB.out.trans (hb.mono HB.out.size))
    obtain ⟨A2, c2, hv2e, hx2, hc2, hm2⟩ := ho2.rd rcC_len
    subst hv2e
    rw [show (recF ep tl nu 0 l).length = n by rw [recF_len]; exact LL.out] at hx2 hc2 ⊢
    have HX2 := Lib.hid hx2
    have HC2 := Lib.hid (And.intro hc2 hm2)
    have hnn : ((n : Int) != (n : Int)) = false := by simp
    clear hb HB HRC ho2 hx2 hc2 hm2
    go_wp2_with fail
    clear hnn
    go_loopw [10, 31] (fun vv i wr => ∃ (k : Nat) (v : Value) (M : List ByteArray), v = vv ∧ i = .int .i64 (k : Int) ∧ k ≤ n ∧ M = ((l.take k).map (·.2.2)).foldl withL [] ∧ TS wr v M ∧ Below w2.heap.size w2 wr) (fun _ i _ => n - (intOf i).toNat)
    case atStart => exact ⟨0, _, [], rfl, rfl, Nat.zero_le _, rfl, TS.of_own (own_nil _ 0), Below.refl _ _⟩
    case round =>
      obtain ⟨k, v, M, rfl, rfl, hk, hM, hts, hb⟩ := hrel
      have HM := Lib.hid hM
      have HT := Lib.hid hts
      have HB3 := Lib.hid hb
      have HBW := Lib.hid (HB2.out.trans (hb.mono HB2.out.size))
      obtain ⟨a1, c1, rfl, hs1, hc1, hm1⟩ := hts
      have HS1 := Lib.hid hs1
      have HC1 := Lib.hid (And.intro hc1 hm1)
      clear hM hb hs1 hc1 hm1
      by_cases hlt : k < n
      · have hd1 : decide ((k : Int) < (n : Int)) = true := decide_eq_true (by omega)
        have hl : k < l.length := by rw [LL.out]; exact hlt
        obtain ⟨b, off, _, rfl, hbb, _⟩ := (H.out.below HBW.out).at hlt
        obtain ⟨b2, off2, _, rfl, hbb2, _⟩ := (HX2.out.below HB3.out).at hlt
        obtain ⟨x, hx⟩ : ∃ x, l[k] = x := ⟨_, rfl⟩
        have HX := Lib.hid (show l[k]? = some x by rw [List.getElem?_eq_getElem hl, hx])
        obtain ⟨x1, x2, x3⟩ := x
        have HY := Lib.hid (recF_get ep tl nu l k HX.out)
        have HMN := Lib.hid (show withL M x3 = ((l.take (k + 1)).map (·.2.2)).foldl withL [] by rw [List.take_succ_eq_append_getElem hl, hx, List.map_append, List.foldl_append, HM.out]; rfl)
        have hML : M.length ≤ 70 := by rw [HM.out]; have := fold_len ((l.take k).map (·.2.2)) []; rw [List.length_map, List.length_take] at this; simp at this ⊢; omega
        have HW := Lib.hid (fun (W : World) (q : SlN W a1 M.length M) => refWith_any a1 M.length c1 M x3 W q (by omega) HC1.out.1 HC1.out.2)
        have hi0 : (0 : Int) ≤ (k : Int) := by omega
        have hnq := fun W => run_eq_rc ep (k : Int) x1 tl nu x2 ⟨#[]⟩ x3 W
        clear hx
        have hc101 : wr.cell? ⟨b, off + k * 3, none⟩ = some (.int .i64 x1) := (H.out.below HBW.out).cellAt HX.out hlt 0 _ rfl
        have hc102 : wr.cell? ⟨b, off + k * 3 + 1, none⟩ = some (.string x2) := (H.out.below HBW.out).cellAt HX.out hlt 1 _ rfl
        have hc103 : wr.cell? ⟨b, off + k * 3 + 2, none⟩ = some (.string x3) := (H.out.below HBW.out).cellAt HX.out hlt 2 _ rfl
        have HF104 := Lib.hid (blk_new wr (.cells #[.int .i64 x1, .string x2, .string x3] 97 (0, 0)))
        have HB105 := Lib.hid (HB3.out.alloc HB3.out.size (.cells #[.int .i64 x1, .string x2, .string x3] 97 (0, 0)))
        clear HB3
        have hc106 : (wr.alloc (.cells #[.int .i64 x1, .string x2, .string x3] 97 (0, 0))).cell? ⟨wr.heap.size, 2, none⟩ = some (.string x3) := by rw [cell_of_row _ _ _ _ _ _ HF104.out]; rfl
        go_wp2_with fail
        refine (HW.out (wr.alloc (.cells #[.int .i64 x1, .string x2, .string x3] 97 (0, 0))) (HS1.out.later ((Below.refl _ wr).alloc (Nat.le_refl _) _))).mono ?_
        rintro e w11 ⟨v4, rfl, ht4, hb11⟩
        clear hc101 hc102 hc103 hc106
        have HF107 := Lib.hid (blk_below HF104.out hb11)
        have HB108 := Lib.hid (HB105.out.trans (hb11.mono (by have := HB105.out.size; simp at this ⊢ <;> omega)))
        clear hb11 HB105 HF104
        have HT4 := Lib.hid ht4
        clear ht4
        go_wp2_with fail
        have hc109 : w11.cell? ⟨wr.heap.size, 0, none⟩ = some (.int .i64 x1) := by rw [cell_of_row _ _ _ _ _ _ HF107.out]; rfl
        have hc110 : w11.cell? ⟨wr.heap.size, 1, none⟩ = some (.string x2) := by rw [cell_of_row _ _ _ _ _ _ HF107.out]; rfl
        have hc111 : w11.cell? ⟨wr.heap.size, 2, none⟩ = some (.string x3) := by rw [cell_of_row _ _ _ _ _ _ HF107.out]; rfl
        clear hnq
        have hnq := fun W => run_eq_rc ep (k : Int) x1 tl nu x2 ⟨#[]⟩ x3 W
        have hc112 : w11.cell? ⟨b2, off2 + k * 8, none⟩ = some (.int .i64 ep) := (HX2.out.below HB108.out).cellAt HY.out hlt 0 _ rfl
        have hc113 : w11.cell? ⟨b2, off2 + k * 8 + 1, none⟩ = some (.int .i64 (k : Int)) := (HX2.out.below HB108.out).cellAt HY.out hlt 1 _ rfl
        have hc114 : w11.cell? ⟨b2, off2 + k * 8 + 2, none⟩ = some (.int .i64 x1) := (HX2.out.below HB108.out).cellAt HY.out hlt 2 _ rfl
        have hc115 : w11.cell? ⟨b2, off2 + k * 8 + 3, none⟩ = some (.string x2) := (HX2.out.below HB108.out).cellAt HY.out hlt 3 _ rfl
        have hc116 : w11.cell? ⟨b2, off2 + k * 8 + 4, none⟩ = some (.string ⟨#[]⟩) := (HX2.out.below HB108.out).cellAt HY.out hlt 4 _ rfl
        have hc117 : w11.cell? ⟨b2, off2 + k * 8 + 5, none⟩ = some (.string x3) := (HX2.out.below HB108.out).cellAt HY.out hlt 5 _ rfl
        have hc118 : w11.cell? ⟨b2, off2 + k * 8 + 6, none⟩ = some (.int .i64 tl) := (HX2.out.below HB108.out).cellAt HY.out hlt 6 _ rfl
        have hc119 : w11.cell? ⟨b2, off2 + k * 8 + 7, none⟩ = some (.int .i64 nu) := (HX2.out.below HB108.out).cellAt HY.out hlt 7 _ rfl
        have hr120 := fun d os => cell_regrown hc109 d os
        have hr121 := fun d os => cell_regrown hc110 d os
        have hr122 := fun d os => cell_regrown hc111 d os
        have hr123 := fun d os => cell_regrown hc112 d os
        have hr124 := fun d os => cell_regrown hc113 d os
        have hr125 := fun d os => cell_regrown hc114 d os
        have hr126 := fun d os => cell_regrown hc115 d os
        have hr127 := fun d os => cell_regrown hc116 d os
        have hr128 := fun d os => cell_regrown hc117 d os
        have hr129 := fun d os => cell_regrown hc118 d os
        have hr130 := fun d os => cell_regrown hc119 d os
        refine wp_region_quiet_below (by kernel_rfl) (by kernel_rfl) ?_
        repeat (any_goals (first | go_big_quiet_step (fail) | quiet_step (fail)))
        refine wpQuiet_nil ?_
        intro w12 hw12
        have hb12 := below_anyY hw12
        clear hw12 hr120 hr121 hr122 hr123 hr124 hr125 hr126 hr127 hr128 hr129 hr130
        clear hc109 hc110 hc111 hc112 hc113 hc114 hc115 hc116 hc117 hc118 hc119
        have HF131 := Lib.hid (blk_below HF107.out hb12)
        have HB132 := Lib.hid (HB108.out.trans (hb12.mono HB108.out.size))
        have HQ133 := Lib.hid (HT4.out.later hb12)
        clear HT4
        clear hb12 HB108 HF107
        clear hnq
        go_wp2_with fail
        go_roundw
        case rel => exact ⟨k + 1, v4, _, rfl, by go_num, by omega, HMN.out, HQ133.out, HB132.out⟩
        case measure => simp [intOf] <;> omega
      · have hd1 : decide ((k : Int) < (n : Int)) = false := decide_eq_false (by omega)
        have HE := Lib.hid (show M = (l.map (·.2.2)).foldl withL [] by rw [HM.out, List.take_of_length_le (by rw [LL.out]; omega)])
        have hML : M.length ≤ 70 := by rw [HE.out]; have := fold_len (l.map (·.2.2)) []; rw [List.length_map, LL.out] at this; simp at this ⊢; omega
        have HHS2 := Lib.hid (fun (W : World) (q : RdX rfC 3 W (A : Option Addr) n l) => HHS.out W q)
        rw [← HE.out] at HHS2
        clear HHS HM HE
        have HPL := Lib.hid (fun (W : World) (q : RdX rcC 8 W A2 n (recF ep tl nu 0 l)) => rfplay_any none 0 0 [] A2 n c2 (recF ep tl nu 0 l) W RdX.nil q (by unfold maxLen; omega) OkL.nil HZR.out)
        have HPV := Lib.hid (fun q : wrR l = 0 => play_rec ep tl nu l [] 0 (HOK.out q))
        obtain ⟨V, z, hVz⟩ : ∃ V z, playR [] (recF ep tl nu 0 l) = (V, z) := ⟨_, _, rfl⟩
        rw [hVz] at HPL HPV
        clear hVz
        go_wp2_with fail
        refine (HHS2.out wr (H.out.below HBW.out)).mono ?_
        rintro e w5 ⟨v5, rfl, ht5, hb5⟩
        have HT5 := Lib.hid ht5
        have HTM := Lib.hid (HT.out.later hb5)
        have HX5 := Lib.hid (HX2.out.below (HB3.out.trans (hb5.mono HB3.out.size)))
        have HB5 := Lib.hid (HBW.out.trans (hb5.mono HBW.out.size))
        have hv5 : v5.oneCell' = true := by obtain ⟨_, _, rfl, _⟩ := ht5; rfl
        clear ht5 hb5
        go_wp2_with fail
        refine (texts_ts v5 _ M w5 HT5.out HTM.out (by omega)).mono ?_
        rintro e w6 ⟨rfl, hb6⟩
        have HX6 := Lib.hid (HX5.out.below hb6)
        have HB6 := Lib.hid (HB5.out.trans (hb6.mono HB5.out.size))
        clear hb6 hv5
        go_wp2_with fail
        refine (HPL.out w6 HX6.out).mono ?_
        rintro e w7 ⟨v7, rfl, ⟨A7, c7, rfl, hx7, -, hc7⟩, hb7⟩
        have HV7 := Lib.hid hx7
        have HB7 := Lib.hid (HB6.out.trans (hb7.mono HB6.out.size))
        clear hx7 hb7 hc7
        go_wp2_with fail
        refine (HWR.out w7 (H.out.below HB7.out)).mono ?_
        rintro e w8 ⟨rfl, hb8⟩
        have HV8 := Lib.hid (HV7.out.below hb8)
        have HB8 := Lib.hid (HB7.out.trans (hb8.mono HB7.out.size))
        clear hb8
        by_cases hw0 : wrR l = 0
        · have hpv := HPV.out hw0
          injection hpv with hp1 hp2
          rw [List.nil_append] at hp1
          subst hp1 hp2
          rw [hw0]
          clear hw0 HPV
          go_wp2_with fail
          refine (rfsame_any A7 V.length c7 V A n c V w8 HV8.out (H.out.below HB8.out) (by rw [LL.out]; unfold maxLen; omega)).mono ?_
          rintro e w9 ⟨rfl, hb9⟩
          have HB9 := Lib.hid (HB8.out.trans (hb9.mono HB8.out.size))
          clear hb9
          rw [show sameR V V = true from decide_eq_true rfl]
          go_wp2_with fail
          refine (awake37 _).mono ?_
          rintro e w10 ⟨rfl, hb10⟩
          have HB10 := Lib.hid (HB9.out.trans (hb10.mono HB9.out.size))
          clear hb10
          go_wp2_with fail
          go_ret
          exact ⟨rfl, HB10.out⟩
        · have e0 : (wrR l != 0) = true := by simpa using hw0
          clear hw0 HPV HOK
          generalize wrR l = wz at *
          go_wp2_with fail
          refine (awake37 _).mono ?_
          rintro e w10 ⟨rfl, hb10⟩
          have HB10 := Lib.hid (HB8.out.trans (hb10.mono HB8.out.size))
          clear hb10
          go_wp2_with fail
          go_ret
          exact ⟨rfl, HB10.out⟩
end Go.Proofs.Ytbjngbacnkmjhaa.LRefsRecords
