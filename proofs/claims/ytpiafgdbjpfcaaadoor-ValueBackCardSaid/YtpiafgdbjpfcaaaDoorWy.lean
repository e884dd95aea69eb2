/- The contract of the document's Parse of layer 6 and the walk of ValueParses over this translation. Conditions: texts of at most a million bytes; what the library's variables hold. -/
import Derived.Test.YtpiafgdbjpfcaaaDoorRows
import Derived.Test.YtpiafgdbjpfcaaaDoorWx
import Derived.Test.YtpiafgdbjpfcaaaDoorWo
import Derived.Deep.DeepCutAuto
namespace Go.Proofs.YtpiafgdbjpfcaaaDoor
open Go.RowKit Vi Hm

theorem ext1 (S : ByteArray) (c : UInt8) (r : List UInt8) (h : S.data.toList = c :: r) : S.extract 1 S.size = ⟨r.toArray⟩ := by
  apply ba_ext
  rw [Lib.extract_to_end, h]
  simp
theorem head_at (S : ByteArray) (c : UInt8) (r : List UInt8) (h : S.data.toList = c :: r) : ∃ h0 : 0 < S.size, S[0] = c := by
  have hl : S.data.toList.length = S.size := by simp
  rw [h, List.length_cons] at hl
  refine ⟨by omega, ?_⟩
  have h0 : S.data.toList[0]? = some S[0] := Lib.data_getElem? S 0 (by omega)
  rw [h] at h0
  simpa using h0.symm
theorem pv_no {S : ByteArray} (h : pvB S = false) : pvV S = (0, 0, ⟨#[]⟩) := by unfold pvV; rw [if_neg (by rw [h]; simp)]
theorem pv_is {S : ByteArray} {k n : Int} {t : ByteArray} (hg : gsV S = (k, n, t)) (hne : S ≠ ⟨#[]⟩) (hs : vshow k n t = S) : pvB S = true ∧ pvV S = (k, n, t) := by
  have h : pvB S = true := by unfold pvB; rw [hg]; exact decide_eq_true ⟨hne, hs⟩
  exact ⟨h, by unfold pvV; rw [if_pos h, hg]⟩
theorem pv_not {S : ByteArray} {k n : Int} {t : ByteArray} (hg : gsV S = (k, n, t)) (hs : vshow k n t ≠ S) : pvB S = false := by
  unfold pvB; rw [hg]; exact decide_eq_false fun h => hs h.2
theorem unhexV_is (S : ByteArray) : (∃ m, unhexL S.data.toList = some m ∧ unhexV S.data.toList = .tuple #[.string (unhexT S.data.toList), .bool true]) ∨ (unhexT S.data.toList = ⟨#[]⟩ ∧ unhexV S.data.toList = .tuple #[.string ⟨#[]⟩, .bool false]) := by
  cases h : unhexL S.data.toList with
  | some m => exact .inl ⟨m, rfl, by unfold unhexV unhexT; rw [h]⟩
  | none => exact .inr ⟨by unfold unhexT; rw [h], by unfold unhexV; rw [h]⟩
theorem lst_ne_nil {S : ByteArray} (h : 0 < S.size) : S ≠ ⟨#[]⟩ := by rintro rfl; exact absurd h (by decide)
theorem show_39 (S : ByteArray) (r : List UInt8) (hS : S.data.toList = 35 :: r) : vshow 3 0 ⟨#[]⟩ ≠ S := by
  rw [show_3 _ (by decide), if_pos (by decide)]
  rintro rfl
  rw [app_data] at hS
  revert hS
  simp
set_option maxRecDepth 100000 in
set_option maxHeartbeats 4000000 in
theorem rvparse_any (S : ByteArray) (w : World) (hS : S.size ≤ 1000) :
    Calls Tryd.prog 10 #[.string S] w fun e w' => e = .returned (.tuple #[.agg (vvv (pvV S)), .bool (pvB S)]) ∧ Below w.heap.size w w' := by
  have hsl : S.data.toList.length = S.size := by simp
  have hsi : (S.size : Int) ≤ 1000 := by omega
  by_cases hT : S = wT
  · obtain ⟨p1, p2⟩ := pv_yes 1 1 ⟨#[]⟩ (by omega) (by omega) (by unfold vok; simp [Lib.toList_data])
    rw [show_1 1 true rfl (by unfold vok; simp [Lib.toList_data]), show (if true = true then wT else wF) = wT from rfl, ← hT] at p1 p2
    have HB0 := Lib.hid p1
    have HP := Lib.hid p2
    have hq : (S.toList == [116, 114, 117, 101]) = true := lst_yes hT
    clear hT p1 p2 hsl
    go_enter Tryd.func10, Tryd.ntmps10
    go_wp2_with fail
    exact bodyPost_ret (v := .tuple #[.agg #[.int .i64 1, .int .i64 1, .string ⟨#[]⟩], .bool true]) (by simp [results, Tryd.results10, go_sem]) rfl ⟨by rw [HP.out, HB0.out]; rfl, ((Below.refl _ _).alloc (Nat.le_refl _) _).alloc (by simp) _⟩
  · have hq : (S.toList == [116, 114, 117, 101]) = false := lst_no hT
    by_cases hF : S = wF
    · obtain ⟨p1, p2⟩ := pv_yes 1 0 ⟨#[]⟩ (by omega) (by omega) (by unfold vok; simp [Lib.toList_data])
      rw [show_1 0 false rfl (by unfold vok; simp [Lib.toList_data]), show (if false = true then wT else wF) = wF from rfl, ← hF] at p1 p2
      have HB0 := Lib.hid p1
      have HP := Lib.hid p2
      have hq2 : (S.toList == [102, 97, 108, 115, 101]) = true := lst_yes hF
      clear hT hF p1 p2 hsl
      go_enter Tryd.func10, Tryd.ntmps10
      go_wp2_with fail
      exact bodyPost_ret (v := .tuple #[.agg #[.int .i64 1, .int .i64 0, .string ⟨#[]⟩], .bool true]) (by simp [results, Tryd.results10, go_sem]) rfl ⟨by rw [HP.out, HB0.out]; rfl, ((Below.refl _ _).alloc (Nat.le_refl _) _).alloc (by simp) _⟩
    · have hq2 : (S.toList == [102, 97, 108, 115, 101]) = false := lst_no hF
      cases hl : S.data.toList with
      | nil =>
        rw [hl] at hsl
        have hs0 : S = ⟨#[]⟩ := ba_ext hl
        have p1 : pvB S = false := by unfold pvB; exact decide_eq_false fun h => h.1 hs0
        have HB0 := Lib.hid p1
        have HP := Lib.hid (pv_no p1)
        have hz : (S.size : Int) = 0 := by have : S.size = 0 := hsl.symm; omega
        have hz1 : decide ((0 : Int) < (S.size : Int)) = false := decide_eq_false (by omega)
        have hz2 : decide (0 < S.size) = false := decide_eq_false (by omega)
        have HN := Lib.hid (fun W : World => number_any S W (by omega))
        have HL := Lib.hid hs0
        clear hT hF p1 hl hsl hs0 hz
        go_enter Tryd.func10, Tryd.ntmps10
        go_wp2_with fail
        refine (HN.out _).mono ?_
        rintro e w' ⟨a, b, rfl, hr, hn, rfl⟩
        have HA := Lib.hid hn
        clear hn
        cases b with
        | false =>
          go_wp2_with fail
          exact bodyPost_ret (v := .tuple #[.agg #[.int .i64 0, .int .i64 0, .string ⟨#[]⟩], .bool false]) (by simp [results, Tryd.results10, go_sem]) rfl ⟨by rw [HP.out, HB0.out]; rfl, ((Below.refl _ _).alloc (Nat.le_refl _) _).alloc (by simp) _⟩
        | true =>
          have HSH := Lib.hid (fun W : World => rshow_any 2 a ⟨#[]⟩ W hr.1 hr.2 (by decide))
          rw [show_2] at HSH
          have hx : (⟨(Lib.itoa a).toArray⟩ : ByteArray) ≠ S := by
            rw [HL.out]
            intro h
            obtain ⟨c, r, hi, _⟩ := itoa_cons a
            have := congrArg (fun b : ByteArray => b.data.toList) h
            simp [hi] at this
          generalize (⟨(Lib.itoa a).toArray⟩ : ByteArray) = X at HSH hx
          have hq3 : (X.toList == S.toList) = false := lst2_no hx
          have hq4 : (X.toList != S.toList) = true := by rw [bne, hq3]; rfl
          clear hx hr
          go_wp2_with fail
          have HF1 : Hid (((w.alloc (.cells #[.int .i64 0, .int .i64 0, .string ⟨#[]⟩] 24 (0, 0))).alloc (.cells #[.int .i64 2, .int .i64 a, .string ⟨#[]⟩] 24 (0, 0))).heap[w.heap.size]? = some (.cells #[.int .i64 0, .int .i64 0, .string ⟨#[]⟩] 24 (0, 0))) := Lib.hid (blk_alloc (blk_new w (.cells #[.int .i64 0, .int .i64 0, .string ⟨#[]⟩] 24 (0, 0))) (.cells #[.int .i64 2, .int .i64 a, .string ⟨#[]⟩] 24 (0, 0)))
          have HB1 := Lib.hid (((Below.refl _ w).alloc (Nat.le_refl _) (.cells #[.int .i64 0, .int .i64 0, .string ⟨#[]⟩] 24 (0, 0))).alloc (by simp) (.cells #[.int .i64 2, .int .i64 a, .string ⟨#[]⟩] 24 (0, 0)))
          refine (HSH.out ((w.alloc (.cells #[.int .i64 0, .int .i64 0, .string ⟨#[]⟩] 24 (0, 0))).alloc (.cells #[.int .i64 2, .int .i64 a, .string ⟨#[]⟩] 24 (0, 0)))).mono ?_
          rintro e w1 ⟨rfl, hb1⟩
          have HF11 := Lib.hid (blk_below HF1.out hb1)
          have HB12 := Lib.hid (HB1.out.trans (hb1.mono HB1.out.size))
          clear hb1 HB1 HF1
          go_wp2_with (first
            | refine wpList_store_rowY rfl 24 (.tmp 2) (.tmp 64) rfl (w.heap.size) #[.int .i64 0, .int .i64 0, .string ⟨#[]⟩] rfl rfl 24 _ HF11.out (info_val _ _ _) rfl (one_val _ _ _) w.heap.size w HB12.out (by omega) ?_)
          intro W2 hbk hoth hbel _
          have HF13 := Lib.hid hbk.out
          have HB14 := Lib.hid hbel.out
          clear hbk hoth hbel HB12 HF11
          go_wp2_with fail
          refine bodyPost_ret (results_ctY rfl _ _ (w.heap.size) #[.int .i64 0, .int .i64 0, .string ⟨#[]⟩] rfl (run_loadVar_row _ (w.heap.size) 24 24 _ (0, 0) _ HF13.out Tryd.underlying24 rfl (info_val _ _ _))) rfl ?_
          exact ⟨by rw [HP.out, HB0.out]; rfl, HB14.out⟩
      | cons c r =>
        obtain ⟨hp, hc⟩ := head_at S c r hl
        have hpi : (0 : Int) < (S.size : Int) := by omega
        have HNE := Lib.hid (lst_ne_nil hp)
        have hext := ext1 S c r hl
        rw [hl, List.length_cons] at hsl
        by_cases h39 : c = 39
        · subst h39
          have HG := Lib.hid (gs_39 S r hl)
          have h1 : ((S[0].toNat : Int) == 39) = true := by rw [hc]; rfl
          have HSH := Lib.hid (fun W : World => rshow_any 3 0 ⟨r.toArray⟩ W (by omega) (by omega) (by show r.toArray.size ≤ _; rw [List.size_toArray]; omega))
          generalize (⟨r.toArray⟩ : ByteArray) = Y at hext HG HSH
          obtain ⟨X, hX⟩ : ∃ X, vshow 3 0 Y = X := ⟨_, rfl⟩
          rw [hX] at HSH
          have HX := Lib.hid hX
          clear hT hF hl hsl hc hX
          by_cases hx : X = S
          · obtain ⟨p1, p2⟩ := pv_is HG.out HNE.out (HX.out.trans hx)
            have HB0 := Lib.hid p1
            have HP := Lib.hid p2
            have hq3 : (X.toList == S.toList) = true := lst2_yes hx
            have hq4 : (X.toList != S.toList) = false := by rw [bne, hq3]; rfl
            clear hx p1 p2
            have HB1 := Lib.hid (Below.refl w.heap.size w)
            go_enter Tryd.func10, Tryd.ntmps10
            go_wp2_with fail
            have HF2 := Lib.hid (blk_new w (.cells #[.int .i64 0, .int .i64 0, .string ⟨#[]⟩] 24 (0, 0)))
            have HB3 := Lib.hid (HB1.out.alloc HB1.out.size (.cells #[.int .i64 0, .int .i64 0, .string ⟨#[]⟩] 24 (0, 0)))
            clear HB1
            have HF4 := Lib.hid (blk_alloc HF2.out (.cells #[.int .i64 3, .int .i64 0, .string Y] 24 (0, 0)))
            clear HF2
            have HF5 : Hid (((w.alloc (.cells #[.int .i64 0, .int .i64 0, .string ⟨#[]⟩] 24 (0, 0))).alloc (.cells #[.int .i64 3, .int .i64 0, .string Y] 24 (0, 0))).heap[w.heap.size + 1]? = some (.cells #[.int .i64 3, .int .i64 0, .string Y] 24 (0, 0))) := Lib.hid (blk_newN (W := (w.alloc (.cells #[.int .i64 0, .int .i64 0, .string ⟨#[]⟩] 24 (0, 0)))) (o := (.cells #[.int .i64 3, .int .i64 0, .string Y] 24 (0, 0))) (by simp))
            have HB6 := Lib.hid (HB3.out.alloc (by have := HB3.out.size; simp at this ⊢ <;> omega) (.cells #[.int .i64 3, .int .i64 0, .string Y] 24 (0, 0)))
            clear HB3
            refine (HSH.out ((w.alloc (.cells #[.int .i64 0, .int .i64 0, .string ⟨#[]⟩] 24 (0, 0))).alloc (.cells #[.int .i64 3, .int .i64 0, .string Y] 24 (0, 0)))).mono ?_
            rintro e w1 ⟨rfl, hb1⟩
            have HF7 := Lib.hid (blk_below HF4.out hb1)
            have HF8 := Lib.hid (blk_below HF5.out hb1)
            have HB9 := Lib.hid (HB6.out.trans (hb1.mono HB6.out.size))
            clear hb1 HB6 HF4 HF5
            go_wp2_with (first
              | refine wpList_store_rowY rfl 24 (.tmp 2) (.tmp 65) rfl (w.heap.size) #[.int .i64 3, .int .i64 0, .string Y] rfl rfl 24 _ HF7.out (info_val _ _ _) rfl (one_val _ _ _) w.heap.size w HB9.out (by omega) ?_
              | refine wpList_load_row rfl 24 (.tmp 4) rfl (w.heap.size + 1) rfl 24 #[.int .i64 3, .int .i64 0, .string Y] (0, 0) _ HF8.out Tryd.underlying24 rfl (info_val _ _ _) ?_)
            intro W2 hbk hoth hbel _
            have HF10 := Lib.hid hbk.out
            have HF11 := Lib.hid (blk_oth HF8.out hoth.out (by omega))
            have HB12 := Lib.hid hbel.out
            clear hbk hoth hbel HB9 HF7 HF8
            go_wp2_with fail
            refine bodyPost_ret (results_ctY rfl _ _ (w.heap.size) #[.int .i64 3, .int .i64 0, .string Y] rfl (run_loadVar_row _ (w.heap.size) 24 24 _ (0, 0) _ HF10.out Tryd.underlying24 rfl (info_val _ _ _))) rfl ?_
            exact ⟨by rw [HP.out, HB0.out]; rfl, HB12.out⟩
          · have p1 := pv_not HG.out (fun h => hx (HX.out.symm.trans h))
            have HB0 := Lib.hid p1
            have HP := Lib.hid (pv_no p1)
            have hq3 : (X.toList == S.toList) = false := lst2_no hx
            have hq4 : (X.toList != S.toList) = true := by rw [bne, hq3]; rfl
            clear hx p1
            have HB1 := Lib.hid (Below.refl w.heap.size w)
            go_enter Tryd.func10, Tryd.ntmps10
            go_wp2_with fail
            have HF2 := Lib.hid (blk_new w (.cells #[.int .i64 0, .int .i64 0, .string ⟨#[]⟩] 24 (0, 0)))
            have HB3 := Lib.hid (HB1.out.alloc HB1.out.size (.cells #[.int .i64 0, .int .i64 0, .string ⟨#[]⟩] 24 (0, 0)))
            clear HB1
            have HF4 := Lib.hid (blk_alloc HF2.out (.cells #[.int .i64 3, .int .i64 0, .string Y] 24 (0, 0)))
            clear HF2
            have HF5 : Hid (((w.alloc (.cells #[.int .i64 0, .int .i64 0, .string ⟨#[]⟩] 24 (0, 0))).alloc (.cells #[.int .i64 3, .int .i64 0, .string Y] 24 (0, 0))).heap[w.heap.size + 1]? = some (.cells #[.int .i64 3, .int .i64 0, .string Y] 24 (0, 0))) := Lib.hid (blk_newN (W := (w.alloc (.cells #[.int .i64 0, .int .i64 0, .string ⟨#[]⟩] 24 (0, 0)))) (o := (.cells #[.int .i64 3, .int .i64 0, .string Y] 24 (0, 0))) (by simp))
            have HB6 := Lib.hid (HB3.out.alloc (by have := HB3.out.size; simp at this ⊢ <;> omega) (.cells #[.int .i64 3, .int .i64 0, .string Y] 24 (0, 0)))
            clear HB3
            refine (HSH.out ((w.alloc (.cells #[.int .i64 0, .int .i64 0, .string ⟨#[]⟩] 24 (0, 0))).alloc (.cells #[.int .i64 3, .int .i64 0, .string Y] 24 (0, 0)))).mono ?_
            rintro e w1 ⟨rfl, hb1⟩
            have HF7 := Lib.hid (blk_below HF4.out hb1)
            have HF8 := Lib.hid (blk_below HF5.out hb1)
            have HB9 := Lib.hid (HB6.out.trans (hb1.mono HB6.out.size))
            clear hb1 HB6 HF4 HF5
            go_wp2_with (first
              | refine wpList_store_rowY rfl 24 (.tmp 2) (.tmp 64) rfl (w.heap.size) #[.int .i64 0, .int .i64 0, .string ⟨#[]⟩] rfl rfl 24 _ HF7.out (info_val _ _ _) rfl (one_val _ _ _) w.heap.size w HB9.out (by omega) ?_)
            intro W2 hbk hoth hbel _
            have HF10 := Lib.hid hbk.out
            have HF11 := Lib.hid (blk_oth HF8.out hoth.out (by omega))
            have HB12 := Lib.hid hbel.out
            clear hbk hoth hbel HB9 HF7 HF8
            go_wp2_with fail
            refine bodyPost_ret (results_ctY rfl _ _ (w.heap.size) #[.int .i64 0, .int .i64 0, .string ⟨#[]⟩] rfl (run_loadVar_row _ (w.heap.size) 24 24 _ (0, 0) _ HF10.out Tryd.underlying24 rfl (info_val _ _ _))) rfl ?_
            exact ⟨by rw [HP.out, HB0.out]; rfl, HB12.out⟩
        · have h1 : ((S[0].toNat : Int) == 39) = false := by
            rw [hc, beq_eq_false_iff_ne]
            intro h
            exact h39 (UInt8.toNat_inj.1 (by show c.toNat = 39; omega))
          by_cases h35 : c = 35
          · subst h35
            have h2 : ((S[0].toNat : Int) == 35) = true := by rw [hc]; rfl
            have hU := fun W : World => runhex_any ⟨r.toArray⟩ W (by show r.toArray.size ≤ _; rw [List.size_toArray]; omega)
            have hG := gs_35 S r hl
            have hus := unhexT_size r
            have hS39 := show_39 S r hl
            rcases unhexV_is ⟨r.toArray⟩ with ⟨m, hm, hu⟩ | ⟨hm, hu⟩
            · have HU := Lib.hid hU
              rw [hu] at HU
              rw [show ((⟨r.toArray⟩ : ByteArray).data.toList) = r from rfl] at HU
              have HSH := Lib.hid (fun W : World => rshow_any 3 0 (unhexT r) W (by omega) (by omega) (by omega))
              generalize (⟨r.toArray⟩ : ByteArray) = Z at hext HU
              generalize unhexT r = Y at hG HU HSH
              have HG := Lib.hid hG
              obtain ⟨X, hX⟩ : ∃ X, vshow 3 0 Y = X := ⟨_, rfl⟩
              rw [hX] at HSH
              have HX := Lib.hid hX
              clear hT hF hl hsl hc hX h39 hus hm hu hG hU hS39
              by_cases hx : X = S
              · obtain ⟨p1, p2⟩ := pv_is HG.out HNE.out (HX.out.trans hx)
                have HB0 := Lib.hid p1
                have HP := Lib.hid p2
                have hq3 : (X.toList == S.toList) = true := lst2_yes hx
                have hq4 : (X.toList != S.toList) = false := by rw [bne, hq3]; rfl
                clear hx p1 p2
                have HB1 := Lib.hid (Below.refl w.heap.size w)
                go_enter Tryd.func10, Tryd.ntmps10
                go_wp2_with fail
                have HF2 := Lib.hid (blk_new w (.cells #[.int .i64 0, .int .i64 0, .string ⟨#[]⟩] 24 (0, 0)))
                have HB3 := Lib.hid (HB1.out.alloc HB1.out.size (.cells #[.int .i64 0, .int .i64 0, .string ⟨#[]⟩] 24 (0, 0)))
                clear HB1
                have HF4 := Lib.hid (blk_alloc HF2.out (.cells #[.int .i64 0, .int .i64 0, .string ⟨#[]⟩] 24 (0, 0)))
                clear HF2
                have HF5 : Hid (((w.alloc (.cells #[.int .i64 0, .int .i64 0, .string ⟨#[]⟩] 24 (0, 0))).alloc (.cells #[.int .i64 0, .int .i64 0, .string ⟨#[]⟩] 24 (0, 0))).heap[w.heap.size + 1]? = some (.cells #[.int .i64 0, .int .i64 0, .string ⟨#[]⟩] 24 (0, 0))) := Lib.hid (blk_newN (W := (w.alloc (.cells #[.int .i64 0, .int .i64 0, .string ⟨#[]⟩] 24 (0, 0)))) (o := (.cells #[.int .i64 0, .int .i64 0, .string ⟨#[]⟩] 24 (0, 0))) (by simp))
                have HB6 := Lib.hid (HB3.out.alloc (by have := HB3.out.size; simp at this ⊢ <;> omega) (.cells #[.int .i64 0, .int .i64 0, .string ⟨#[]⟩] 24 (0, 0)))
                clear HB3
                refine (HU.out ((w.alloc (.cells #[.int .i64 0, .int .i64 0, .string ⟨#[]⟩] 24 (0, 0))).alloc (.cells #[.int .i64 0, .int .i64 0, .string ⟨#[]⟩] 24 (0, 0)))).mono ?_
                rintro e w1 ⟨rfl, hb1⟩
                have HF7 := Lib.hid (blk_below HF4.out hb1)
                have HF8 := Lib.hid (blk_below HF5.out hb1)
                have HB9 := Lib.hid (HB6.out.trans (hb1.mono HB6.out.size))
                clear hb1 HB6 HF4 HF5
                go_wp2_with (first
                  | refine wpList_store_rowY rfl 24 (.tmp 4) (.tmp 49) rfl (w.heap.size + 1) #[.int .i64 3, .int .i64 0, .string Y] rfl rfl 24 _ HF8.out (info_val _ _ _) rfl (one_val _ _ _) w.heap.size w HB9.out (by omega) ?_)
                intro W2 hbk hoth hbel _
                have HF10 := Lib.hid (blk_oth HF7.out hoth.out (by omega))
                have HF11 := Lib.hid hbk.out
                have HB12 := Lib.hid hbel.out
                clear hbk hoth hbel HB9 HF7 HF8
                have hc13 : W2.cell? ⟨w.heap.size + 1, 0, none⟩ = some (.int .i64 3) := by rw [cell_of_row _ _ _ _ _ _ HF11.out]; rfl
                have hc14 : W2.cell? ⟨w.heap.size + 1, 1, none⟩ = some (.int .i64 0) := by rw [cell_of_row _ _ _ _ _ _ HF11.out]; rfl
                have hc15 : W2.cell? ⟨w.heap.size + 1, 2, none⟩ = some (.string Y) := by rw [cell_of_row _ _ _ _ _ _ HF11.out]; rfl
                go_wp2_with fail
                refine (HSH.out W2).mono ?_
                rintro e w3 ⟨rfl, hb3⟩
                clear hc13 hc14 hc15
                have HF16 := Lib.hid (blk_below HF10.out hb3)
                have HF17 := Lib.hid (blk_below HF11.out hb3)
                have HB18 := Lib.hid (HB12.out.trans (hb3.mono HB12.out.size))
                clear hb3 HB12 HF10 HF11
                go_wp2_with (first
                  | refine wpList_store_rowY rfl 24 (.tmp 2) (.tmp 65) rfl (w.heap.size) #[.int .i64 3, .int .i64 0, .string Y] rfl rfl 24 _ HF16.out (info_val _ _ _) rfl (one_val _ _ _) w.heap.size w HB18.out (by omega) ?_
                  | refine wpList_load_row rfl 24 (.tmp 4) rfl (w.heap.size + 1) rfl 24 #[.int .i64 3, .int .i64 0, .string Y] (0, 0) _ HF17.out Tryd.underlying24 rfl (info_val _ _ _) ?_)
                intro W4 hbk hoth hbel _
                have HF19 := Lib.hid hbk.out
                have HF20 := Lib.hid (blk_oth HF17.out hoth.out (by omega))
                have HB21 := Lib.hid hbel.out
                clear hbk hoth hbel HB18 HF16 HF17
                go_wp2_with fail
                refine bodyPost_ret (results_ctY rfl _ _ (w.heap.size) #[.int .i64 3, .int .i64 0, .string Y] rfl (run_loadVar_row _ (w.heap.size) 24 24 _ (0, 0) _ HF19.out Tryd.underlying24 rfl (info_val _ _ _))) rfl ?_
                exact ⟨by rw [HP.out, HB0.out]; rfl, HB21.out⟩
              · have p1 := pv_not HG.out (fun h => hx (HX.out.symm.trans h))
                have HB0 := Lib.hid p1
                have HP := Lib.hid (pv_no p1)
                have hq3 : (X.toList == S.toList) = false := lst2_no hx
                have hq4 : (X.toList != S.toList) = true := by rw [bne, hq3]; rfl
                clear hx p1
                have HB1 := Lib.hid (Below.refl w.heap.size w)
                go_enter Tryd.func10, Tryd.ntmps10
                go_wp2_with fail
                have HF2 := Lib.hid (blk_new w (.cells #[.int .i64 0, .int .i64 0, .string ⟨#[]⟩] 24 (0, 0)))
                have HB3 := Lib.hid (HB1.out.alloc HB1.out.size (.cells #[.int .i64 0, .int .i64 0, .string ⟨#[]⟩] 24 (0, 0)))
                clear HB1
                have HF4 := Lib.hid (blk_alloc HF2.out (.cells #[.int .i64 0, .int .i64 0, .string ⟨#[]⟩] 24 (0, 0)))
                clear HF2
                have HF5 : Hid (((w.alloc (.cells #[.int .i64 0, .int .i64 0, .string ⟨#[]⟩] 24 (0, 0))).alloc (.cells #[.int .i64 0, .int .i64 0, .string ⟨#[]⟩] 24 (0, 0))).heap[w.heap.size + 1]? = some (.cells #[.int .i64 0, .int .i64 0, .string ⟨#[]⟩] 24 (0, 0))) := Lib.hid (blk_newN (W := (w.alloc (.cells #[.int .i64 0, .int .i64 0, .string ⟨#[]⟩] 24 (0, 0)))) (o := (.cells #[.int .i64 0, .int .i64 0, .string ⟨#[]⟩] 24 (0, 0))) (by simp))
                have HB6 := Lib.hid (HB3.out.alloc (by have := HB3.out.size; simp at this ⊢ <;> omega) (.cells #[.int .i64 0, .int .i64 0, .string ⟨#[]⟩] 24 (0, 0)))
                clear HB3
                refine (HU.out ((w.alloc (.cells #[.int .i64 0, .int .i64 0, .string ⟨#[]⟩] 24 (0, 0))).alloc (.cells #[.int .i64 0, .int .i64 0, .string ⟨#[]⟩] 24 (0, 0)))).mono ?_
                rintro e w1 ⟨rfl, hb1⟩
                have HF7 := Lib.hid (blk_below HF4.out hb1)
                have HF8 := Lib.hid (blk_below HF5.out hb1)
                have HB9 := Lib.hid (HB6.out.trans (hb1.mono HB6.out.size))
                clear hb1 HB6 HF4 HF5
                go_wp2_with (first
                  | refine wpList_store_rowY rfl 24 (.tmp 4) (.tmp 49) rfl (w.heap.size + 1) #[.int .i64 3, .int .i64 0, .string Y] rfl rfl 24 _ HF8.out (info_val _ _ _) rfl (one_val _ _ _) w.heap.size w HB9.out (by omega) ?_)
                intro W2 hbk hoth hbel _
                have HF10 := Lib.hid (blk_oth HF7.out hoth.out (by omega))
                have HF11 := Lib.hid hbk.out
                have HB12 := Lib.hid hbel.out
                clear hbk hoth hbel HB9 HF7 HF8
                have hc13 : W2.cell? ⟨w.heap.size + 1, 0, none⟩ = some (.int .i64 3) := by rw [cell_of_row _ _ _ _ _ _ HF11.out]; rfl
                have hc14 : W2.cell? ⟨w.heap.size + 1, 1, none⟩ = some (.int .i64 0) := by rw [cell_of_row _ _ _ _ _ _ HF11.out]; rfl
                have hc15 : W2.cell? ⟨w.heap.size + 1, 2, none⟩ = some (.string Y) := by rw [cell_of_row _ _ _ _ _ _ HF11.out]; rfl
                go_wp2_with fail
                refine (HSH.out W2).mono ?_
                rintro e w3 ⟨rfl, hb3⟩
                clear hc13 hc14 hc15
                have HF16 := Lib.hid (blk_below HF10.out hb3)
                have HF17 := Lib.hid (blk_below HF11.out hb3)
                have HB18 := Lib.hid (HB12.out.trans (hb3.mono HB12.out.size))
                clear hb3 HB12 HF10 HF11
                go_wp2_with (first
                  | refine wpList_store_rowY rfl 24 (.tmp 2) (.tmp 64) rfl (w.heap.size) #[.int .i64 0, .int .i64 0, .string ⟨#[]⟩] rfl rfl 24 _ HF16.out (info_val _ _ _) rfl (one_val _ _ _) w.heap.size w HB18.out (by omega) ?_)
                intro W4 hbk hoth hbel _
                have HF19 := Lib.hid hbk.out
                have HF20 := Lib.hid (blk_oth HF17.out hoth.out (by omega))
                have HB21 := Lib.hid hbel.out
                clear hbk hoth hbel HB18 HF16 HF17
                go_wp2_with fail
                refine bodyPost_ret (results_ctY rfl _ _ (w.heap.size) #[.int .i64 0, .int .i64 0, .string ⟨#[]⟩] rfl (run_loadVar_row _ (w.heap.size) 24 24 _ (0, 0) _ HF19.out Tryd.underlying24 rfl (info_val _ _ _))) rfl ?_
                exact ⟨by rw [HP.out, HB0.out]; rfl, HB21.out⟩
            · have HU := Lib.hid hU
              rw [hu] at HU
              rw [show ((⟨r.toArray⟩ : ByteArray).data.toList) = r from rfl] at hm
              rw [hm] at hG
              have p1 := pv_not hG hS39
              have HB0 := Lib.hid p1
              have HP := Lib.hid (pv_no p1)
              generalize (⟨r.toArray⟩ : ByteArray) = Z at hext HU
              clear hT hF hl hsl hc h39 hus hm hu hG hU hS39 p1
              have HB1 := Lib.hid (Below.refl w.heap.size w)
              go_enter Tryd.func10, Tryd.ntmps10
              go_wp2_with fail
              have HF2 := Lib.hid (blk_new w (.cells #[.int .i64 0, .int .i64 0, .string ⟨#[]⟩] 24 (0, 0)))
              have HB3 := Lib.hid (HB1.out.alloc HB1.out.size (.cells #[.int .i64 0, .int .i64 0, .string ⟨#[]⟩] 24 (0, 0)))
              clear HB1
              have HF4 := Lib.hid (blk_alloc HF2.out (.cells #[.int .i64 0, .int .i64 0, .string ⟨#[]⟩] 24 (0, 0)))
              clear HF2
              have HF5 : Hid (((w.alloc (.cells #[.int .i64 0, .int .i64 0, .string ⟨#[]⟩] 24 (0, 0))).alloc (.cells #[.int .i64 0, .int .i64 0, .string ⟨#[]⟩] 24 (0, 0))).heap[w.heap.size + 1]? = some (.cells #[.int .i64 0, .int .i64 0, .string ⟨#[]⟩] 24 (0, 0))) := Lib.hid (blk_newN (W := (w.alloc (.cells #[.int .i64 0, .int .i64 0, .string ⟨#[]⟩] 24 (0, 0)))) (o := (.cells #[.int .i64 0, .int .i64 0, .string ⟨#[]⟩] 24 (0, 0))) (by simp))
              have HB6 := Lib.hid (HB3.out.alloc (by have := HB3.out.size; simp at this ⊢ <;> omega) (.cells #[.int .i64 0, .int .i64 0, .string ⟨#[]⟩] 24 (0, 0)))
              clear HB3
              refine (HU.out ((w.alloc (.cells #[.int .i64 0, .int .i64 0, .string ⟨#[]⟩] 24 (0, 0))).alloc (.cells #[.int .i64 0, .int .i64 0, .string ⟨#[]⟩] 24 (0, 0)))).mono ?_
              rintro e w1 ⟨rfl, hb1⟩
              have HF7 := Lib.hid (blk_below HF4.out hb1)
              have HF8 := Lib.hid (blk_below HF5.out hb1)
              have HB9 := Lib.hid (HB6.out.trans (hb1.mono HB6.out.size))
              clear hb1 HB6 HF4 HF5
              go_wp2_with (first
                | refine wpList_store_rowY rfl 24 (.tmp 2) (.tmp 47) rfl (w.heap.size) #[.int .i64 0, .int .i64 0, .string ⟨#[]⟩] rfl rfl 24 _ HF7.out (info_val _ _ _) rfl (one_val _ _ _) w.heap.size w HB9.out (by omega) ?_)
              intro W2 hbk hoth hbel _
              have HF10 := Lib.hid hbk.out
              have HF11 := Lib.hid (blk_oth HF8.out hoth.out (by omega))
              have HB12 := Lib.hid hbel.out
              clear hbk hoth hbel HB9 HF7 HF8
              go_wp2_with fail
              refine bodyPost_ret (results_ctY rfl _ _ (w.heap.size) #[.int .i64 0, .int .i64 0, .string ⟨#[]⟩] rfl (run_loadVar_row _ (w.heap.size) 24 24 _ (0, 0) _ HF10.out Tryd.underlying24 rfl (info_val _ _ _))) rfl ?_
              exact ⟨by rw [HP.out, HB0.out]; rfl, HB12.out⟩
          · have h2 : ((S[0].toNat : Int) == 35) = false := by
              rw [hc, beq_eq_false_iff_ne]
              intro h
              exact h35 (UInt8.toNat_inj.1 (by show c.toNat = 35; omega))
            have hG : gsV S = (2, atV S.data.toList, ⟨#[]⟩) := by
              unfold gsV
              rw [if_neg hT, if_neg hF, if_neg (by rw [hl, pre_cons]; simpa using Ne.symm h39), if_neg (by rw [hl, pre_cons]; simpa using Ne.symm h35)]
            have hgr := gs_range S
            rw [hG] at hgr
            dsimp only at hgr
            have hat : ∀ a, NR a → (⟨(Lib.itoa a).toArray⟩ : ByteArray) = S → atV S.data.toList = a := by
              intro a ha hs
              rw [← hs]
              show atV (Lib.itoa a).toArray.toList = a
              rw [List.toList_toArray]
              unfold atV
              rw [Pv.atoi_itoa a ha.1 ha.2]
            have hlist : ∀ a, (⟨(Lib.itoa a).toArray⟩ : ByteArray) = S → S.data.toList = Lib.itoa a := by
              intro a hs
              rw [← hs]
            have HN := Lib.hid (fun W : World => number_any S W (by omega))
            generalize atV S.data.toList = q at hG hgr hat
            have HG0 := Lib.hid hG
            have HAT := Lib.hid hat
            have HLI := Lib.hid hlist
            have HGR := Lib.hid hgr
            clear hT hF hl hsl hc h39 h35 hG hgr hat hlist
            go_enter Tryd.func10, Tryd.ntmps10
            go_wp2_with fail
            refine (HN.out _).mono ?_
            rintro e w' ⟨a, b, rfl, hr, hn, rfl⟩
            have HA := Lib.hid hn
            clear hn
            cases b with
            | false =>
              have p1 : pvB S = false := pv_not HG0.out (by
                rw [show_2]
                intro h
                exact absurd (HA.out q HGR.out (HLI.out q h)).1 (by simp))
              have HB0 := Lib.hid p1
              have HP := Lib.hid (pv_no p1)
              clear p1
              go_wp2_with fail
              exact bodyPost_ret (v := .tuple #[.agg #[.int .i64 0, .int .i64 0, .string ⟨#[]⟩], .bool false]) (by simp [results, Tryd.results10, go_sem]) rfl ⟨by rw [HP.out, HB0.out]; rfl, ((Below.refl _ _).alloc (Nat.le_refl _) _).alloc (by simp) _⟩
            | true =>
              have HSH := Lib.hid (fun W : World => rshow_any 2 a ⟨#[]⟩ W hr.1 hr.2 (by decide))
              rw [show_2] at HSH
              obtain ⟨X, hX⟩ : ∃ X, (⟨(Lib.itoa a).toArray⟩ : ByteArray) = X := ⟨_, rfl⟩
              rw [hX] at HSH
              have HX := Lib.hid hX
              have HRR := Lib.hid hr
              clear hX hr
              by_cases hx : X = S
              · have hq5 := HAT.out a HRR.out (HX.out.trans hx)
                obtain ⟨p1, p2⟩ := pv_is (HG0.out.trans (by rw [hq5])) HNE.out (by rw [show_2]; exact HX.out.trans hx)
                have HB0 := Lib.hid p1
                have HP := Lib.hid p2
                have hq3 : (X.toList == S.toList) = true := lst2_yes hx
                have hq4 : (X.toList != S.toList) = false := by rw [bne, hq3]; rfl
                clear hx p1 p2 hq5
                go_wp2_with fail
                have HF1 : Hid (((w.alloc (.cells #[.int .i64 0, .int .i64 0, .string ⟨#[]⟩] 24 (0, 0))).alloc (.cells #[.int .i64 2, .int .i64 a, .string ⟨#[]⟩] 24 (0, 0))).heap[w.heap.size]? = some (.cells #[.int .i64 0, .int .i64 0, .string ⟨#[]⟩] 24 (0, 0))) := Lib.hid (blk_alloc (blk_new w (.cells #[.int .i64 0, .int .i64 0, .string ⟨#[]⟩] 24 (0, 0))) (.cells #[.int .i64 2, .int .i64 a, .string ⟨#[]⟩] 24 (0, 0)))
                have HF2 : Hid (((w.alloc (.cells #[.int .i64 0, .int .i64 0, .string ⟨#[]⟩] 24 (0, 0))).alloc (.cells #[.int .i64 2, .int .i64 a, .string ⟨#[]⟩] 24 (0, 0))).heap[w.heap.size + 1]? = some (.cells #[.int .i64 2, .int .i64 a, .string ⟨#[]⟩] 24 (0, 0))) := Lib.hid (blk_newN (W := (w.alloc (.cells #[.int .i64 0, .int .i64 0, .string ⟨#[]⟩] 24 (0, 0)))) (o := (.cells #[.int .i64 2, .int .i64 a, .string ⟨#[]⟩] 24 (0, 0))) (by simp))
                have HB1 := Lib.hid (((Below.refl _ w).alloc (Nat.le_refl _) (.cells #[.int .i64 0, .int .i64 0, .string ⟨#[]⟩] 24 (0, 0))).alloc (by simp) (.cells #[.int .i64 2, .int .i64 a, .string ⟨#[]⟩] 24 (0, 0)))
                refine (HSH.out ((w.alloc (.cells #[.int .i64 0, .int .i64 0, .string ⟨#[]⟩] 24 (0, 0))).alloc (.cells #[.int .i64 2, .int .i64 a, .string ⟨#[]⟩] 24 (0, 0)))).mono ?_
                rintro e w1 ⟨rfl, hb1⟩
                have HF11 := Lib.hid (blk_below HF1.out hb1)
                have HF12 := Lib.hid (blk_below HF2.out hb1)
                have HB13 := Lib.hid (HB1.out.trans (hb1.mono HB1.out.size))
                clear hb1 HB1 HF1 HF2
                go_wp2_with (first
                  | refine wpList_store_rowY rfl 24 (.tmp 2) (.tmp 65) rfl (w.heap.size) #[.int .i64 2, .int .i64 a, .string ⟨#[]⟩] rfl rfl 24 _ HF11.out (info_val _ _ _) rfl (one_val _ _ _) w.heap.size w HB13.out (by omega) ?_
                  | refine wpList_load_row rfl 24 (.tmp 4) rfl (w.heap.size + 1) rfl 24 #[.int .i64 2, .int .i64 a, .string ⟨#[]⟩] (0, 0) _ HF12.out Tryd.underlying24 rfl (info_val _ _ _) ?_)
                intro W2 hbk hoth hbel _
                have HF14 := Lib.hid hbk.out
                have HF15 := Lib.hid (blk_oth HF12.out hoth.out (by omega))
                have HB16 := Lib.hid hbel.out
                clear hbk hoth hbel HB13 HF11 HF12
                go_wp2_with fail
                refine bodyPost_ret (results_ctY rfl _ _ (w.heap.size) #[.int .i64 2, .int .i64 a, .string ⟨#[]⟩] rfl (run_loadVar_row _ (w.heap.size) 24 24 _ (0, 0) _ HF14.out Tryd.underlying24 rfl (info_val _ _ _))) rfl ?_
                exact ⟨by rw [HP.out, HB0.out]; rfl, HB16.out⟩
              · have p1 : pvB S = false := pv_not HG0.out (by
                  rw [show_2]
                  intro h
                  have h2 := (HA.out q HGR.out (HLI.out q h)).2
                  rw [← h2] at h
                  exact hx (HX.out.symm.trans h))
                have HB0 := Lib.hid p1
                have HP := Lib.hid (pv_no p1)
                have hq3 : (X.toList == S.toList) = false := lst2_no hx
                have hq4 : (X.toList != S.toList) = true := by rw [bne, hq3]; rfl
                clear hx p1
                go_wp2_with fail
                have HF1 : Hid (((w.alloc (.cells #[.int .i64 0, .int .i64 0, .string ⟨#[]⟩] 24 (0, 0))).alloc (.cells #[.int .i64 2, .int .i64 a, .string ⟨#[]⟩] 24 (0, 0))).heap[w.heap.size]? = some (.cells #[.int .i64 0, .int .i64 0, .string ⟨#[]⟩] 24 (0, 0))) := Lib.hid (blk_alloc (blk_new w (.cells #[.int .i64 0, .int .i64 0, .string ⟨#[]⟩] 24 (0, 0))) (.cells #[.int .i64 2, .int .i64 a, .string ⟨#[]⟩] 24 (0, 0)))
                have HF2 : Hid (((w.alloc (.cells #[.int .i64 0, .int .i64 0, .string ⟨#[]⟩] 24 (0, 0))).alloc (.cells #[.int .i64 2, .int .i64 a, .string ⟨#[]⟩] 24 (0, 0))).heap[w.heap.size + 1]? = some (.cells #[.int .i64 2, .int .i64 a, .string ⟨#[]⟩] 24 (0, 0))) := Lib.hid (blk_newN (W := (w.alloc (.cells #[.int .i64 0, .int .i64 0, .string ⟨#[]⟩] 24 (0, 0)))) (o := (.cells #[.int .i64 2, .int .i64 a, .string ⟨#[]⟩] 24 (0, 0))) (by simp))
                have HB1 := Lib.hid (((Below.refl _ w).alloc (Nat.le_refl _) (.cells #[.int .i64 0, .int .i64 0, .string ⟨#[]⟩] 24 (0, 0))).alloc (by simp) (.cells #[.int .i64 2, .int .i64 a, .string ⟨#[]⟩] 24 (0, 0)))
                refine (HSH.out ((w.alloc (.cells #[.int .i64 0, .int .i64 0, .string ⟨#[]⟩] 24 (0, 0))).alloc (.cells #[.int .i64 2, .int .i64 a, .string ⟨#[]⟩] 24 (0, 0)))).mono ?_
                rintro e w1 ⟨rfl, hb1⟩
                have HF11 := Lib.hid (blk_below HF1.out hb1)
                have HF12 := Lib.hid (blk_below HF2.out hb1)
                have HB13 := Lib.hid (HB1.out.trans (hb1.mono HB1.out.size))
                clear hb1 HB1 HF1 HF2
                go_wp2_with (first
                  | refine wpList_store_rowY rfl 24 (.tmp 2) (.tmp 64) rfl (w.heap.size) #[.int .i64 0, .int .i64 0, .string ⟨#[]⟩] rfl rfl 24 _ HF11.out (info_val _ _ _) rfl (one_val _ _ _) w.heap.size w HB13.out (by omega) ?_)
                intro W2 hbk hoth hbel _
                have HF14 := Lib.hid hbk.out
                have HF15 := Lib.hid (blk_oth HF12.out hoth.out (by omega))
                have HB16 := Lib.hid hbel.out
                clear hbk hoth hbel HB13 HF11 HF12
                go_wp2_with fail
                refine bodyPost_ret (results_ctY rfl _ _ (w.heap.size) #[.int .i64 0, .int .i64 0, .string ⟨#[]⟩] rfl (run_loadVar_row _ (w.heap.size) 24 24 _ (0, 0) _ HF14.out Tryd.underlying24 rfl (info_val _ _ _))) rfl ?_
                exact ⟨by rw [HP.out, HB0.out]; rfl, HB16.out⟩
end Go.Proofs.YtpiafgdbjpfcaaaDoor
