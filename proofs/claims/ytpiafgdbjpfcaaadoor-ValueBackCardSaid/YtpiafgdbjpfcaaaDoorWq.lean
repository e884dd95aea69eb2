/- The contracts of value.guess and value.Parse over this translation: the one value that a word shows. Conditions: texts of at most a million bytes; what the library's variables hold. -/
import Derived.Test.YtpiafgdbjpfcaaaDoorWp
import Derived.Test.YtpiafgdbjpfcaaaDoorSj
import Derived.Test.YtpiafgdbjpfcaaaDoorZb
import Derived.Test.YtpiafgdbjpfcaaaDoorWr
namespace Go.Proofs.YtpiafgdbjpfcaaaDoor
open Go.RowKit Vi Hm

def ErrT (w : World) : Prop := (∃ ev, w.cell? ⟨0, 0, none⟩ = some ev ∧ (ev = .nilIface ∨ ∃ te pe, ev = .iface te pe) ∧ 0 < w.heap.size) ∧
  (∃ ev, w.cell? ⟨1, 0, none⟩ = some ev ∧ (ev = .nilIface ∨ ∃ te pe, ev = .iface te pe) ∧ 1 < w.heap.size)
theorem ErrT.later {w w' : World} (h : ErrT w) (hb : Below w.heap.size w w') : ErrT w' := by
  obtain ⟨⟨ev, hc, he, hl⟩, ev', hc', he', hl'⟩ := h
  exact ⟨⟨ev, (hb.cell (p := ⟨_, 0, none⟩) hl).trans hc, he, Nat.lt_of_lt_of_le hl hb.size⟩, ev', (hb.cell (p := ⟨_, 0, none⟩) hl').trans hc', he', Nat.lt_of_lt_of_le hl' hb.size⟩
def VT (w : World) : Prop := PowT w ∧ ErrT w
theorem VT.later {w w' : World} (h : VT w) (hb : Below w.heap.size w w') : VT w' := ⟨h.1.later hb, h.2.later hb⟩
theorem below_bytes (w : World) (e : TypeId) (t : ByteArray) : Below w.heap.size w (Lib.bytesWorld w e t) :=
  ⟨rfl, rfl, rfl, by rw [Lib.bytesWorld_size]; omega, fun j hj => Lib.bytesWorld_at_old w e t j hj⟩
theorem atoi_any (S : ByteArray) (w : World) (hS : S.size ≤ 1000000) (hE : ErrT w) :
    Calls Tryd.prog 62 #[.string S] w fun e w' => ∃ ev : Value, e = .returned (.tuple #[.int .i64 (atV S.data.toList), ev]) ∧ Below w.heap.size w w' := by
  obtain ⟨⟨ev, hc, he, hl⟩, ev', hc', he', hl'⟩ := hE
  cases h : Lib.atoiAll S.data.toList with
  | ok v =>
    refine (Tryd.strconv_Atoi_ok S (by omega) v h w).mono ?_
    rintro e w' ⟨rfl, hw⟩
    refine ⟨.nilIface, by unfold atV; rw [h], ?_⟩
    rcases hw with rfl | ⟨t, rfl⟩
    · exact Below.refl _ _
    · exact below_bytes _ _ _
  | «syntax» =>
    refine (Tryd.strconv_Atoi_syntax S (by omega) h ev w hc he).mono ?_
    rintro e w' ⟨N, rfl, _, _, hb⟩
    exact ⟨_, by unfold atV; rw [h], hb⟩
  | range =>
    refine (Tryd.strconv_Atoi_range S (by omega) h ev' w hc' he').mono ?_
    rintro e w' ⟨N, rfl, _, _, hb⟩
    exact ⟨_, by unfold atV; rw [h], hb⟩
theorem cutp_any (S : ByteArray) (b : UInt8) (r : ByteArray) (o : Bool) (ho : Lib.hasPrefix S.data.toList [b] = o) (hr : (if o = true then ⟨(S.data.toList.drop 1).toArray⟩ else S) = r) (W : World) :
    Calls Tryd.prog 60 #[.string S, .string ⟨#[b]⟩] W fun e w' => e = .returned (.tuple #[.string r, .bool o]) ∧ W = w' := by
  refine (Tryd.strings_CutPrefix S ⟨#[b]⟩ W).mono ?_
  rintro e w' ⟨rfl, rfl⟩
  refine ⟨?_, rfl⟩
  have h1 : (⟨#[b]⟩ : ByteArray).data.toList = [b] := rfl
  rw [h1]
  unfold Lib.trimPrefix
  rw [ho]
  cases o with
  | true => rw [if_pos rfl] at hr ⊢; rw [← hr]; rfl
  | false => rw [if_neg (by simp)] at hr ⊢; rw [← hr]
theorem unhexP_any (S : ByteArray) (w : World) (hS : S.size ≤ 1000000) :
    Calls Tryd.prog 61 #[.string S] w fun e w' => ∃ b : Bool, e = .returned (.tuple #[.string (unhexT S.data.toList), .bool b]) ∧ Below w.heap.size w w' := by
  refine (unhex_any S w hS).mono ?_
  rintro e w' ⟨rfl, hb⟩
  cases h : unhexL S.data.toList with
  | some m => exact ⟨true, by unfold unhexV unhexT; rw [h], hb⟩
  | none => exact ⟨false, by unfold unhexV unhexT; rw [h], hb⟩
theorem lst_yes {a b : ByteArray} (h : a = b) : (a.toList == b.data.toList) = true := by rw [h, Lib.toList_data]; simp
theorem lst_no {a b : ByteArray} (h : a ≠ b) : (a.toList == b.data.toList) = false := by
  rw [beq_eq_false_iff_ne, Lib.toList_data]
  exact fun e => h (ba_ext e)
theorem lst2_yes {a b : ByteArray} (h : a = b) : (a.toList == b.toList) = true := by rw [h]; simp
theorem lst2_no {a b : ByteArray} (h : a ≠ b) : (a.toList == b.toList) = false := by
  rw [beq_eq_false_iff_ne, Lib.toList_data, Lib.toList_data]
  exact fun e => h (ba_ext e)
set_option maxRecDepth 100000 in
set_option maxHeartbeats 2000000 in
theorem guess_any (S : ByteArray) (w : World) (hS : S.size ≤ 1000000) (hE : ErrT w) :
    Calls Tryd.prog 25 #[.string S] w fun e w' => e = .returned (.agg (vvv (gsV S))) ∧ Below w.heap.size w w' := by
  have HE := Lib.hid hE
  clear hE
  by_cases hT : S = wT
  · have HG := Lib.hid (show gsV S = (1, 1, ⟨#[]⟩) by unfold gsV; rw [if_pos hT])
    have hq : (S.toList == [116, 114, 117, 101]) = true := lst_yes hT
    clear hT
    have HB1 := Lib.hid (Below.refl w.heap.size w)
    go_enter Tryd.func25, Tryd.ntmps25
    go_wp2_with fail
    have HF2 := Lib.hid (blk_new w (.cells #[.int .i64 0, .int .i64 0, .string ⟨#[]⟩] 24 (0, 0)))
    have HB3 := Lib.hid (HB1.out.alloc HB1.out.size (.cells #[.int .i64 0, .int .i64 0, .string ⟨#[]⟩] 24 (0, 0)))
    clear HB1
    exact bodyPost_ret (v := .agg #[.int .i64 1, .int .i64 1, .string ⟨#[]⟩]) (by simp [results, Tryd.results25, go_sem]) rfl ⟨by rw [HG.out]; rfl, (Below.refl _ _).alloc (Nat.le_refl _) _⟩
  · have hq : (S.toList == [116, 114, 117, 101]) = false := lst_no hT
    by_cases hF : S = wF
    · have HG := Lib.hid (show gsV S = (1, 0, ⟨#[]⟩) by unfold gsV; rw [if_neg hT, if_pos hF])
      have hq2 : (S.toList == [102, 97, 108, 115, 101]) = true := lst_yes hF
      clear hT hF
      have HB1 := Lib.hid (Below.refl w.heap.size w)
      go_enter Tryd.func25, Tryd.ntmps25
      go_wp2_with fail
      have HF2 := Lib.hid (blk_new w (.cells #[.int .i64 0, .int .i64 0, .string ⟨#[]⟩] 24 (0, 0)))
      have HB3 := Lib.hid (HB1.out.alloc HB1.out.size (.cells #[.int .i64 0, .int .i64 0, .string ⟨#[]⟩] 24 (0, 0)))
      clear HB1
      exact bodyPost_ret (v := .agg #[.int .i64 1, .int .i64 0, .string ⟨#[]⟩]) (by simp [results, Tryd.results25, go_sem]) rfl ⟨by rw [HG.out]; rfl, (Below.refl _ _).alloc (Nat.le_refl _) _⟩
    · have hq2 : (S.toList == [102, 97, 108, 115, 101]) = false := lst_no hF
      cases h39 : Lib.hasPrefix S.data.toList [39] with
      | true =>
        have HG0 : gsV S = (3, 0, ⟨(S.data.toList.drop 1).toArray⟩) := by unfold gsV; rw [if_neg hT, if_neg hF, if_pos h39]
        have C1 := Lib.hid (fun W => cutp_any S 39 ⟨(S.data.toList.drop 1).toArray⟩ true h39 rfl W)
        generalize (⟨(S.data.toList.drop 1).toArray⟩ : ByteArray) = X at HG0 C1
        have HG := Lib.hid HG0
        clear hT hF h39 HG0
        have HB1 := Lib.hid (Below.refl w.heap.size w)
        go_enter Tryd.func25, Tryd.ntmps25
        go_wp2_with fail
        have HF2 := Lib.hid (blk_new w (.cells #[.int .i64 0, .int .i64 0, .string ⟨#[]⟩] 24 (0, 0)))
        have HB3 := Lib.hid (HB1.out.alloc HB1.out.size (.cells #[.int .i64 0, .int .i64 0, .string ⟨#[]⟩] 24 (0, 0)))
        clear HB1
        refine (C1.out (w.alloc (.cells #[.int .i64 0, .int .i64 0, .string ⟨#[]⟩] 24 (0, 0)))).mono ?_
        rintro e w' ⟨rfl, rfl⟩
        go_wp2_with fail
        exact bodyPost_ret (v := .agg #[.int .i64 3, .int .i64 0, .string X]) (by simp [results, Tryd.results25, go_sem]) rfl ⟨by rw [HG.out]; rfl, (Below.refl _ _).alloc (Nat.le_refl _) _⟩
      | false =>
        have C1 := Lib.hid (fun W => cutp_any S 39 S false h39 rfl W)
        cases h35 : Lib.hasPrefix S.data.toList [35] with
        | true =>
          have HG0 : gsV S = (3, 0, unhexT (S.data.toList.drop 1)) := by unfold gsV; rw [if_neg hT, if_neg hF, if_neg (by rw [h39]; simp), if_pos h35]
          have C2 := Lib.hid (fun W => cutp_any S 35 ⟨(S.data.toList.drop 1).toArray⟩ true h35 rfl W)
          have HU := Lib.hid (fun W : World => unhexP_any ⟨(S.data.toList.drop 1).toArray⟩ W (by
            show (S.data.toList.drop 1).toArray.size ≤ _
            have hs : S.data.toList.length = S.size := by simp
            rw [List.size_toArray, List.length_drop]; omega))
          rw [show ((⟨(S.data.toList.drop 1).toArray⟩ : ByteArray).data.toList) = S.data.toList.drop 1 from rfl] at HU
          generalize unhexT (S.data.toList.drop 1) = X at HG0 HU
          generalize (⟨(S.data.toList.drop 1).toArray⟩ : ByteArray) = Y at HU C2
          have HG := Lib.hid HG0
          clear hT hF h39 h35 HG0
          have HB1 := Lib.hid (Below.refl w.heap.size w)
          go_enter Tryd.func25, Tryd.ntmps25
          go_wp2_with fail
          have HF2 := Lib.hid (blk_new w (.cells #[.int .i64 0, .int .i64 0, .string ⟨#[]⟩] 24 (0, 0)))
          have HB3 := Lib.hid (HB1.out.alloc HB1.out.size (.cells #[.int .i64 0, .int .i64 0, .string ⟨#[]⟩] 24 (0, 0)))
          clear HB1
          refine (C1.out (w.alloc (.cells #[.int .i64 0, .int .i64 0, .string ⟨#[]⟩] 24 (0, 0)))).mono ?_
          rintro e w' ⟨rfl, rfl⟩
          go_wp2_with fail
          refine (C2.out (w.alloc (.cells #[.int .i64 0, .int .i64 0, .string ⟨#[]⟩] 24 (0, 0)))).mono ?_
          rintro e w' ⟨rfl, rfl⟩
          go_wp2_with fail
          refine (HU.out (w.alloc (.cells #[.int .i64 0, .int .i64 0, .string ⟨#[]⟩] 24 (0, 0)))).mono ?_
          rintro e w1 ⟨b, rfl, hb1⟩
          have HF4 := Lib.hid (blk_below HF2.out hb1)
          have HB5 := Lib.hid (HB3.out.trans (hb1.mono HB3.out.size))
          clear hb1 HB3 HF2
          go_wp2_with (first
            | refine wpList_store_rowY rfl 24 (.tmp 2) (.tmp 38) rfl (w.heap.size) #[.int .i64 3, .int .i64 0, .string X] rfl rfl 24 _ HF4.out (info_val _ _ _) rfl (one_val _ _ _) w.heap.size w HB5.out (by omega) ?_)
          intro W2 hbk hoth hbel _
          have HF6 := Lib.hid hbk.out
          have HB7 := Lib.hid hbel.out
          clear hbk hoth hbel HB5 HF4
          go_wp2_with fail
          refine bodyPost_ret (results_cY rfl _ _ (w.heap.size) #[.int .i64 3, .int .i64 0, .string X] rfl (run_loadVar_row _ (w.heap.size) 24 24 _ (0, 0) _ HF6.out Tryd.underlying24 rfl (info_val _ _ _))) rfl ?_
          exact ⟨by rw [HG.out]; rfl, HB7.out⟩
        | false =>
          have HG0 : gsV S = (2, atV S.data.toList, ⟨#[]⟩) := by unfold gsV; rw [if_neg hT, if_neg hF, if_neg (by rw [h39]; simp), if_neg (by rw [h35]; simp)]
          have C2 := Lib.hid (fun W => cutp_any S 35 S false h35 rfl W)
          have HA := Lib.hid (fun (W : World) (h : ErrT W) => atoi_any S W hS h)
          generalize atV S.data.toList = a at HG0 HA
          have HG := Lib.hid HG0
          clear hT hF h39 h35 HG0
          have HB1 := Lib.hid (Below.refl w.heap.size w)
          go_enter Tryd.func25, Tryd.ntmps25
          go_wp2_with fail
          have HF2 := Lib.hid (blk_new w (.cells #[.int .i64 0, .int .i64 0, .string ⟨#[]⟩] 24 (0, 0)))
          have HB3 := Lib.hid (HB1.out.alloc HB1.out.size (.cells #[.int .i64 0, .int .i64 0, .string ⟨#[]⟩] 24 (0, 0)))
          clear HB1
          refine (C1.out (w.alloc (.cells #[.int .i64 0, .int .i64 0, .string ⟨#[]⟩] 24 (0, 0)))).mono ?_
          rintro e w' ⟨rfl, rfl⟩
          go_wp2_with fail
          refine (C2.out (w.alloc (.cells #[.int .i64 0, .int .i64 0, .string ⟨#[]⟩] 24 (0, 0)))).mono ?_
          rintro e w' ⟨rfl, rfl⟩
          go_wp2_with fail
          refine (HA.out (w.alloc (.cells #[.int .i64 0, .int .i64 0, .string ⟨#[]⟩] 24 (0, 0))) (HE.out.later HB3.out)).mono ?_
          rintro e w1 ⟨ev, rfl, hb1⟩
          have HF4 := Lib.hid (blk_below HF2.out hb1)
          have HB5 := Lib.hid (HB3.out.trans (hb1.mono HB3.out.size))
          clear hb1 HB3 HF2
          go_wp2_with (first
            | refine wpList_store_rowY rfl 24 (.tmp 2) (.tmp 45) rfl (w.heap.size) #[.int .i64 2, .int .i64 a, .string ⟨#[]⟩] rfl rfl 24 _ HF4.out (info_val _ _ _) rfl (one_val _ _ _) w.heap.size w HB5.out (by omega) ?_)
          intro W2 hbk hoth hbel _
          have HF6 := Lib.hid hbk.out
          have HB7 := Lib.hid hbel.out
          clear hbk hoth hbel HB5 HF4
          go_wp2_with fail
          refine bodyPost_ret (results_cY rfl _ _ (w.heap.size) #[.int .i64 2, .int .i64 a, .string ⟨#[]⟩] rfl (run_loadVar_row _ (w.heap.size) 24 24 _ (0, 0) _ HF6.out Tryd.underlying24 rfl (info_val _ _ _))) rfl ?_
          exact ⟨by rw [HG.out]; rfl, HB7.out⟩
def pvE (S : ByteArray) : Int := if pvB S = true then 0 else 3
set_option maxRecDepth 100000 in
set_option maxHeartbeats 2000000 in
theorem vparse_any (S : ByteArray) (w : World) (hS : S.size ≤ 1000000) (hT : VT w) :
    Calls Tryd.prog 9 #[.string S] w fun e w' => e = .returned (.tuple #[.agg (vvv (pvV S)), .int .i64 (pvE S)]) ∧ Below w.heap.size w w' := by
  have HT := Lib.hid hT
  have HGS := Lib.hid (fun (W : World) (h : ErrT W) => guess_any S W hS h)
  have hr := gs_range S
  have hz := gs_size S
  obtain ⟨k, n, t, hv⟩ : ∃ k n t, gsV S = (k, n, t) := ⟨_, _, _, rfl⟩
  rw [hv] at HGS hr hz
  unfold vvv at HGS
  dsimp only at HGS hr hz
  have HSH := Lib.hid (fun (W : World) (h : PowT W) => vshow_any k n t W hr.1 hr.2 (by omega) h)
  have hP : pvB S = decide (S ≠ ⟨#[]⟩ ∧ vshow k n t = S) := by unfold pvB; rw [hv]
  clear hT hr hz
  by_cases he : S = ⟨#[]⟩
  · have HB0 := Lib.hid (show pvE S = 3 by unfold pvE; rw [hP, if_neg (by simp [he])])
    have HP := Lib.hid (show pvV S = (0, 0, ⟨#[]⟩) by unfold pvV; rw [hP, if_neg (by simp [he])])
    subst he
    clear hP hv
    have HB1 := Lib.hid (Below.refl w.heap.size w)
    go_enter Tryd.func9, Tryd.ntmps9
    go_wp2_with fail
    have HF2 := Lib.hid (blk_new w (.cells #[.int .i64 0, .int .i64 0, .string ⟨#[]⟩] 24 (0, 0)))
    have HB3 := Lib.hid (HB1.out.alloc HB1.out.size (.cells #[.int .i64 0, .int .i64 0, .string ⟨#[]⟩] 24 (0, 0)))
    clear HB1
    refine (HGS.out (w.alloc (.cells #[.int .i64 0, .int .i64 0, .string ⟨#[]⟩] 24 (0, 0))) (HT.out.2.later HB3.out)).mono ?_
    rintro e w1 ⟨rfl, hb1⟩
    have HF4 := Lib.hid (blk_below HF2.out hb1)
    have HB5 := Lib.hid (HB3.out.trans (hb1.mono HB3.out.size))
    clear hb1 HB3 HF2
    have hk6 : w.heap.size < w1.heap.size := lt_of_block HF4.out
    have HF7 := Lib.hid (blk_alloc HF4.out (.cells #[.int .i64 k, .int .i64 n, .string t] 24 (0, 0)))
    have HF8 := Lib.hid (blk_new w1 (.cells #[.int .i64 k, .int .i64 n, .string t] 24 (0, 0)))
    have HB9 := Lib.hid (HB5.out.alloc HB5.out.size (.cells #[.int .i64 k, .int .i64 n, .string t] 24 (0, 0)))
    clear HB5
    have hc10 : (w1.alloc (.cells #[.int .i64 k, .int .i64 n, .string t] 24 (0, 0))).cell? ⟨w1.heap.size, 0, none⟩ = some (.int .i64 k) := by rw [cell_of_row _ _ _ _ _ _ HF8.out]; rfl
    have hc11 : (w1.alloc (.cells #[.int .i64 k, .int .i64 n, .string t] 24 (0, 0))).cell? ⟨w1.heap.size, 1, none⟩ = some (.int .i64 n) := by rw [cell_of_row _ _ _ _ _ _ HF8.out]; rfl
    have hc12 : (w1.alloc (.cells #[.int .i64 k, .int .i64 n, .string t] 24 (0, 0))).cell? ⟨w1.heap.size, 2, none⟩ = some (.string t) := by rw [cell_of_row _ _ _ _ _ _ HF8.out]; rfl
    go_wp2_with (first
      | refine wpList_store_rowY rfl 24 (.tmp 2) (.tmp 15) rfl (w.heap.size) #[.int .i64 0, .int .i64 0, .string ⟨#[]⟩] rfl rfl 24 _ HF7.out (info_val _ _ _) rfl (one_val _ _ _) w.heap.size w HB9.out (by omega) ?_)
    intro W2 hbk hoth hbel _
    clear hc10 hc11 hc12
    have HF13 := Lib.hid hbk.out
    have HF14 := Lib.hid (blk_oth HF8.out hoth.out (by omega))
    have HB15 := Lib.hid hbel.out
    clear hbk hoth hbel HB9 HF7 HF8
    go_wp2_with fail
    refine bodyPost_ret (results_ctY rfl _ _ (w.heap.size) #[.int .i64 0, .int .i64 0, .string ⟨#[]⟩] rfl (run_loadVar_row _ (w.heap.size) 24 24 _ (0, 0) _ HF13.out Tryd.underlying24 rfl (info_val _ _ _))) rfl ?_
    exact ⟨by rw [HP.out, HB0.out]; rfl, HB15.out⟩
  · have hq1 : S.toList.isEmpty = false := by
      rw [Lib.toList_data, List.isEmpty_eq_false_iff]
      intro h
      exact he (ba_ext (by rw [h]))
    generalize vshow k n t = X at HSH hP
    by_cases hx : X = S
    · have HB0 := Lib.hid (show pvE S = 0 by unfold pvE; rw [hP, if_pos (by simp [he, hx])])
      have HP := Lib.hid (show pvV S = (k, n, t) by unfold pvV; rw [hP, if_pos (by simp [he, hx]), hv])
      have hq3 : (X.toList == S.toList) = true := lst2_yes hx
      have hq4 : (X.toList != S.toList) = false := by rw [bne, hq3]; rfl
      clear hP hv he hx
      have HB1 := Lib.hid (Below.refl w.heap.size w)
      go_enter Tryd.func9, Tryd.ntmps9
      go_wp2_with fail
      have HF2 := Lib.hid (blk_new w (.cells #[.int .i64 0, .int .i64 0, .string ⟨#[]⟩] 24 (0, 0)))
      have HB3 := Lib.hid (HB1.out.alloc HB1.out.size (.cells #[.int .i64 0, .int .i64 0, .string ⟨#[]⟩] 24 (0, 0)))
      clear HB1
      refine (HGS.out (w.alloc (.cells #[.int .i64 0, .int .i64 0, .string ⟨#[]⟩] 24 (0, 0))) (HT.out.2.later HB3.out)).mono ?_
      rintro e w1 ⟨rfl, hb1⟩
      have HF4 := Lib.hid (blk_below HF2.out hb1)
      have HB5 := Lib.hid (HB3.out.trans (hb1.mono HB3.out.size))
      clear hb1 HB3 HF2
      have hk6 : w.heap.size < w1.heap.size := lt_of_block HF4.out
      have HF7 := Lib.hid (blk_alloc HF4.out (.cells #[.int .i64 k, .int .i64 n, .string t] 24 (0, 0)))
      have HF8 := Lib.hid (blk_new w1 (.cells #[.int .i64 k, .int .i64 n, .string t] 24 (0, 0)))
      have HB9 := Lib.hid (HB5.out.alloc HB5.out.size (.cells #[.int .i64 k, .int .i64 n, .string t] 24 (0, 0)))
      clear HB5
      have hc10 : (w1.alloc (.cells #[.int .i64 k, .int .i64 n, .string t] 24 (0, 0))).cell? ⟨w1.heap.size, 0, none⟩ = some (.int .i64 k) := by rw [cell_of_row _ _ _ _ _ _ HF8.out]; rfl
      have hc11 : (w1.alloc (.cells #[.int .i64 k, .int .i64 n, .string t] 24 (0, 0))).cell? ⟨w1.heap.size, 1, none⟩ = some (.int .i64 n) := by rw [cell_of_row _ _ _ _ _ _ HF8.out]; rfl
      have hc12 : (w1.alloc (.cells #[.int .i64 k, .int .i64 n, .string t] 24 (0, 0))).cell? ⟨w1.heap.size, 2, none⟩ = some (.string t) := by rw [cell_of_row _ _ _ _ _ _ HF8.out]; rfl
      go_wp2_with fail
      refine (HSH.out (w1.alloc (.cells #[.int .i64 k, .int .i64 n, .string t] 24 (0, 0))) (HT.out.1.later HB9.out)).mono ?_
      rintro e w2 ⟨rfl, hb2⟩
      clear hc10 hc11 hc12
      have HF13 := Lib.hid (blk_below HF7.out hb2)
      have HF14 := Lib.hid (blk_below HF8.out hb2)
      have HB15 := Lib.hid (HB9.out.trans (hb2.mono HB9.out.size))
      clear hb2 HB9 HF7 HF4 HF8
      have hc16 : w2.cell? ⟨w1.heap.size, 0, none⟩ = some (.int .i64 k) := by rw [cell_of_row _ _ _ _ _ _ HF14.out]; rfl
      have hc17 : w2.cell? ⟨w1.heap.size, 1, none⟩ = some (.int .i64 n) := by rw [cell_of_row _ _ _ _ _ _ HF14.out]; rfl
      have hc18 : w2.cell? ⟨w1.heap.size, 2, none⟩ = some (.string t) := by rw [cell_of_row _ _ _ _ _ _ HF14.out]; rfl
      go_wp2_with (first
        | refine wpList_store_rowY rfl 24 (.tmp 2) (.tmp 16) rfl (w.heap.size) #[.int .i64 k, .int .i64 n, .string t] rfl rfl 24 _ HF13.out (info_val _ _ _) rfl (one_val _ _ _) w.heap.size w HB15.out (by omega) ?_
        | refine wpList_load_row rfl 24 (.tmp 4) rfl (w1.heap.size) rfl 24 #[.int .i64 k, .int .i64 n, .string t] (0, 0) _ HF14.out Tryd.underlying24 rfl (info_val _ _ _) ?_)
      intro W3 hbk hoth hbel _
      clear hc16 hc17 hc18
      have HF19 := Lib.hid hbk.out
      have HF20 := Lib.hid (blk_oth HF14.out hoth.out (by omega))
      have HB21 := Lib.hid hbel.out
      clear hbk hoth hbel HB15 HF13 HF14
      go_wp2_with fail
      refine bodyPost_ret (results_ctY rfl _ _ (w.heap.size) #[.int .i64 k, .int .i64 n, .string t] rfl (run_loadVar_row _ (w.heap.size) 24 24 _ (0, 0) _ HF19.out Tryd.underlying24 rfl (info_val _ _ _))) rfl ?_
      exact ⟨by rw [HP.out, HB0.out]; rfl, HB21.out⟩
    · have HB0 := Lib.hid (show pvE S = 3 by unfold pvE; rw [hP, if_neg (by simp [hx])])
      have HP := Lib.hid (show pvV S = (0, 0, ⟨#[]⟩) by unfold pvV; rw [hP, if_neg (by simp [hx])])
      have hq3 : (X.toList == S.toList) = false := lst2_no hx
      have hq4 : (X.toList != S.toList) = true := by rw [bne, hq3]; rfl
      clear hP hv he hx
      have HB1 := Lib.hid (Below.refl w.heap.size w)
      go_enter Tryd.func9, Tryd.ntmps9
      go_wp2_with fail
      have HF2 := Lib.hid (blk_new w (.cells #[.int .i64 0, .int .i64 0, .string ⟨#[]⟩] 24 (0, 0)))
      have HB3 := Lib.hid (HB1.out.alloc HB1.out.size (.cells #[.int .i64 0, .int .i64 0, .string ⟨#[]⟩] 24 (0, 0)))
      clear HB1
      refine (HGS.out (w.alloc (.cells #[.int .i64 0, .int .i64 0, .string ⟨#[]⟩] 24 (0, 0))) (HT.out.2.later HB3.out)).mono ?_
      rintro e w1 ⟨rfl, hb1⟩
      have HF4 := Lib.hid (blk_below HF2.out hb1)
      have HB5 := Lib.hid (HB3.out.trans (hb1.mono HB3.out.size))
      clear hb1 HB3 HF2
      have hk6 : w.heap.size < w1.heap.size := lt_of_block HF4.out
      have HF7 := Lib.hid (blk_alloc HF4.out (.cells #[.int .i64 k, .int .i64 n, .string t] 24 (0, 0)))
      have HF8 := Lib.hid (blk_new w1 (.cells #[.int .i64 k, .int .i64 n, .string t] 24 (0, 0)))
      have HB9 := Lib.hid (HB5.out.alloc HB5.out.size (.cells #[.int .i64 k, .int .i64 n, .string t] 24 (0, 0)))
      clear HB5
      have hc10 : (w1.alloc (.cells #[.int .i64 k, .int .i64 n, .string t] 24 (0, 0))).cell? ⟨w1.heap.size, 0, none⟩ = some (.int .i64 k) := by rw [cell_of_row _ _ _ _ _ _ HF8.out]; rfl
      have hc11 : (w1.alloc (.cells #[.int .i64 k, .int .i64 n, .string t] 24 (0, 0))).cell? ⟨w1.heap.size, 1, none⟩ = some (.int .i64 n) := by rw [cell_of_row _ _ _ _ _ _ HF8.out]; rfl
      have hc12 : (w1.alloc (.cells #[.int .i64 k, .int .i64 n, .string t] 24 (0, 0))).cell? ⟨w1.heap.size, 2, none⟩ = some (.string t) := by rw [cell_of_row _ _ _ _ _ _ HF8.out]; rfl
      go_wp2_with fail
      refine (HSH.out (w1.alloc (.cells #[.int .i64 k, .int .i64 n, .string t] 24 (0, 0))) (HT.out.1.later HB9.out)).mono ?_
      rintro e w2 ⟨rfl, hb2⟩
      clear hc10 hc11 hc12
      have HF13 := Lib.hid (blk_below HF7.out hb2)
      have HF14 := Lib.hid (blk_below HF8.out hb2)
      have HB15 := Lib.hid (HB9.out.trans (hb2.mono HB9.out.size))
      clear hb2 HB9 HF7 HF4 HF8
      have hc16 : w2.cell? ⟨w1.heap.size, 0, none⟩ = some (.int .i64 k) := by rw [cell_of_row _ _ _ _ _ _ HF14.out]; rfl
      have hc17 : w2.cell? ⟨w1.heap.size, 1, none⟩ = some (.int .i64 n) := by rw [cell_of_row _ _ _ _ _ _ HF14.out]; rfl
      have hc18 : w2.cell? ⟨w1.heap.size, 2, none⟩ = some (.string t) := by rw [cell_of_row _ _ _ _ _ _ HF14.out]; rfl
      go_wp2_with (first
        | refine wpList_store_rowY rfl 24 (.tmp 2) (.tmp 15) rfl (w.heap.size) #[.int .i64 0, .int .i64 0, .string ⟨#[]⟩] rfl rfl 24 _ HF13.out (info_val _ _ _) rfl (one_val _ _ _) w.heap.size w HB15.out (by omega) ?_)
      intro W3 hbk hoth hbel _
      clear hc16 hc17 hc18
      have HF19 := Lib.hid hbk.out
      have HF20 := Lib.hid (blk_oth HF14.out hoth.out (by omega))
      have HB21 := Lib.hid hbel.out
      clear hbk hoth hbel HB15 HF13 HF14
      go_wp2_with fail
      refine bodyPost_ret (results_ctY rfl _ _ (w.heap.size) #[.int .i64 0, .int .i64 0, .string ⟨#[]⟩] rfl (run_loadVar_row _ (w.heap.size) 24 24 _ (0, 0) _ HF19.out Tryd.underlying24 rfl (info_val _ _ _))) rfl ?_
      exact ⟨by rw [HP.out, HB0.out]; rfl, HB21.out⟩
end Go.Proofs.YtpiafgdbjpfcaaaDoor
