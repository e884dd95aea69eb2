/- The contract of the document's Take of layer 19 over this translation. Condition: texts of fewer than a million bytes. -/
import Derived.Test.YtdjjabjegmbmaaaMf
import Derived.Test.YtdjjabjegmbmaaaMh
import Derived.Test.YtdjjabjegmbmaaaQb
namespace Go.Proofs.Ytdjjabjegmbmaaa
open Go.RowKit Vi Zp

theorem info_scM (a b c : Value) : (Try.prog.info? 130).map (·.size) = some (#[a, b, c] : Array Value).size := by kernel_rfl
theorem one_scM (S : ByteArray) (x y : Int) : (#[.string S, .int .i64 x, .int .i64 y] : Array Value).all (·.oneCell') = true := by simp [Value.oneCell']
theorem rnumM (S : ByteArray) (q : Nat) (er n : Int) (v : Int) (q' : Nat) (e' : Int) (w : World) (hS : S.size ≤ 1000000) (hq : q ≤ S.size) (h0 : 0 ≤ n) (h1 : n ≤ 4294967296) (h : Rd.num S q er n = (v, q', e')) :
    Calls Try.prog 80 #[.agg #[.string S, .int .i64 (q : Int), .int .i64 er], .int .i64 n] w fun e w' => e = .returned (.tuple #[.agg #[.string S, .int .i64 (q' : Int), .int .i64 e'], .int .i64 v]) ∧ Below w.heap.size w w' := by
  have h1 := rNum_any S q er n w hS hq (by omega) (by omega)
  rw [h] at h1
  exact h1
theorem rfixM (S : ByteArray) (q : Nat) (er n : Int) (v : ByteArray) (q' : Nat) (e' : Int) (w : World) (hS : S.size ≤ 1000000) (hq : q ≤ S.size) (h0 : 0 ≤ n) (h1 : n ≤ 4294967296) (h : Rd.fix S q er n = (v, q', e')) :
    Calls Try.prog 82 #[.agg #[.string S, .int .i64 (q : Int), .int .i64 er], .int .i64 n] w fun e w' => e = .returned (.tuple #[.agg #[.string S, .int .i64 (q' : Int), .int .i64 e'], .string v]) ∧ Below w.heap.size w w' := by
  have h1 := rFix_any S q er n w hS hq (by omega) (by omega)
  rw [h] at h1
  exact h1
theorem rtextM (S : ByteArray) (q : Nat) (er n : Int) (v : ByteArray) (q' : Nat) (e' : Int) (w : World) (hS : S.size ≤ 1000000) (hq : q ≤ S.size) (h0 : 0 ≤ n) (h1 : n ≤ 4294967296) (h : Rd.text S q er n = (v, q', e')) :
    Calls Try.prog 81 #[.agg #[.string S, .int .i64 (q : Int), .int .i64 er], .int .i64 n] w fun e w' => e = .returned (.tuple #[.agg #[.string S, .int .i64 (q' : Int), .int .i64 e'], .string v]) ∧ Below w.heap.size w w' := by
  have h1 := rText_any S q er n w hS hq (by omega) (by omega)
  rw [h] at h1
  exact h1
theorem rbyteM (S : ByteArray) (q : Nat) (er v : Int) (q' : Nat) (e' : Int) (w : World) (hS : S.size ≤ 1000000) (hq : q ≤ S.size) (h : Rd.byte S q er = (v, q', e')) :
    Calls Try.prog 79 #[.agg #[.string S, .int .i64 (q : Int), .int .i64 er]] w fun e w' => e = .returned (.tuple #[.agg #[.string S, .int .i64 (q' : Int), .int .i64 e'], .int .i64 v]) ∧ Below w.heap.size w w' := by
  have h1 := rByte_any S q er w hS hq
  rw [h] at h1
  exact h1
theorem fix_er (S : ByteArray) (q : Nat) (er n : Int) (he : er ≠ 0) : Rd.fix S q er n = (⟨#[]⟩, q, er) := by unfold Rd.fix; rw [if_pos he]
theorem text_er (S : ByteArray) (q : Nat) (er n : Int) (he : er ≠ 0) : Rd.text S q er n = (⟨#[]⟩, q, er) := by unfold Rd.text; rw [num_er S q er n he]; exact fix_er S q er 0 he
theorem byteM_nil (S : ByteArray) (v : Int) (q : Nat) (e : Int) (h : Rd.byte S 0 0 = (v, q, e)) : S.size = 0 → e ≠ 0 := by
  intro hz he
  unfold Rd.byte at h
  rw [if_neg (by simp), dif_neg (by omega)] at h
  simp only [Prod.mk.injEq] at h
  omega
theorem byte_le1 (S : ByteArray) (v : Int) (q : Nat) (e : Int) (h : Rd.byte S 0 0 = (v, q, e)) : q ≤ S.size := by
  have := Rd.byte_le S 0 0 (Nat.zero_le _)
  rw [h] at this; exact this
theorem num_st {S : ByteArray} {q : Nat} {er n v : Int} {q' : Nat} {e' : Int} (h : Rd.num S q er n = (v, q', e')) (hz : S.size = 0 → er ≠ 0) : S.size = 0 → e' ≠ 0 := fun h0 => by
  rw [num_er S q er n (hz h0)] at h; simp only [Prod.mk.injEq] at h; rw [← h.2.2]; exact hz h0
theorem fix_st {S : ByteArray} {q : Nat} {er n : Int} {v : ByteArray} {q' : Nat} {e' : Int} (h : Rd.fix S q er n = (v, q', e')) (hz : S.size = 0 → er ≠ 0) : S.size = 0 → e' ≠ 0 := fun h0 => by
  rw [fix_er S q er n (hz h0)] at h; simp only [Prod.mk.injEq] at h; rw [← h.2.2]; exact hz h0
theorem text_st {S : ByteArray} {q : Nat} {er n : Int} {v : ByteArray} {q' : Nat} {e' : Int} (h : Rd.text S q er n = (v, q', e')) (hz : S.size = 0 → er ≠ 0) : S.size = 0 → e' ≠ 0 := fun h0 => by
  rw [text_er S q er n (hz h0)] at h; simp only [Prod.mk.injEq] at h; rw [← h.2.2]; exact hz h0
set_option maxHeartbeats 16000000 in
set_option maxRecDepth 100000 in
theorem rtake19_any (S : ByteArray) (w : World) (hS : S.size ≤ 999999) :
    Calls Try.prog 15 #[.string S] w (TakeC (.bool true) (.bool false) S w.heap.size w) := by
  have hSm : S.size ≤ 1000000 := by omega
  obtain ⟨x1, q1, e1, hF⟩ : ∃ a0 a1 a2, Rd.byte S 0 0 = (a0, a1, a2) := ⟨_, _, _, rfl⟩
  have hq1 := byte_le1 S _ _ _ hF
  have hz1 := byteM_nil S _ _ _ hF
  have H1 := Lib.hid (fun (W : World) => rbyteM S 0 0 x1 q1 e1 W hSm (Nat.zero_le _) hF)
  have HF := Lib.hid hF
  have HZ1 := Lib.hid hz1
  clear hF hz1
  have HB1 := Lib.hid (Below.refl w.heap.size w)
  go_enter Try.func15, Try.ntmps15
  go_wp2_with fail
  have HF2 := Lib.hid (blk_new w (.cells #[.int .i64 0, .slice none 0 0, .slice none 0 0] 26 (0, 0)))
  have HB3 := Lib.hid (HB1.out.alloc HB1.out.size (.cells #[.int .i64 0, .slice none 0 0, .slice none 0 0] 26 (0, 0)))
  clear HB1
  have HF4 := Lib.hid (blk_alloc HF2.out (.cells #[.int .i64 0, .slice none 0 0, .slice none 0 0] 26 (0, 0)))
  clear HF2
  have HF5 : Hid (((w.alloc (.cells #[.int .i64 0, .slice none 0 0, .slice none 0 0] 26 (0, 0))).alloc (.cells #[.int .i64 0, .slice none 0 0, .slice none 0 0] 26 (0, 0))).heap[w.heap.size + 1]? = some (.cells #[.int .i64 0, .slice none 0 0, .slice none 0 0] 26 (0, 0))) := Lib.hid (blk_newN (W := (w.alloc (.cells #[.int .i64 0, .slice none 0 0, .slice none 0 0] 26 (0, 0)))) (o := (.cells #[.int .i64 0, .slice none 0 0, .slice none 0 0] 26 (0, 0))) (by simp))
  have HB6 := Lib.hid (HB3.out.alloc (by have := HB3.out.size; simp at this ⊢ <;> omega) (.cells #[.int .i64 0, .slice none 0 0, .slice none 0 0] 26 (0, 0)))
  clear HB3
  refine (H1.out ((w.alloc (.cells #[.int .i64 0, .slice none 0 0, .slice none 0 0] 26 (0, 0))).alloc (.cells #[.int .i64 0, .slice none 0 0, .slice none 0 0] 26 (0, 0)))).mono ?_
  rintro e w1 ⟨rfl, hb1⟩
  have HF7 := Lib.hid (blk_below HF4.out hb1)
  have HF8 := Lib.hid (blk_below HF5.out hb1)
  have HB9 := Lib.hid (HB6.out.trans (hb1.mono HB6.out.size))
  clear hb1 HB6 HF4 HF5
  have hCw1 : w.heap.size + 1 < w1.heap.size := lt_of_block HF8.out
  have hk10 : w.heap.size < w1.heap.size := lt_of_block HF7.out
  have hk11 : w.heap.size + 1 < w1.heap.size := lt_of_block HF8.out
  have HF12 := Lib.hid (blk_alloc HF7.out (.cells #[.string S, .int .i64 (q1 : Int), .int .i64 e1] 130 (0, 0)))
  have HF13 := Lib.hid (blk_alloc HF8.out (.cells #[.string S, .int .i64 (q1 : Int), .int .i64 e1] 130 (0, 0)))
  have HF14 := Lib.hid (blk_new w1 (.cells #[.string S, .int .i64 (q1 : Int), .int .i64 e1] 130 (0, 0)))
  have HB15 := Lib.hid (HB9.out.alloc HB9.out.size (.cells #[.string S, .int .i64 (q1 : Int), .int .i64 e1] 130 (0, 0)))
  clear HB9
  by_cases hI : x1 = 76
  rotate_left
  · have hsg : (x1 != 76) = true := by simpa using hI
    have hsg2 : (x1 == 76) = false := by simpa using hI
    obtain ⟨lv, q2, e2, hN1⟩ : ∃ a0 a1 a2, Rd.num S q1 e1 40 = (a0, a1, a2) := ⟨_, _, _, rfl⟩
    have hN1le : q2 ≤ S.size := by have := Rd.num_le S q1 e1 40 hq1; rw [hN1] at this; exact this
    have HN1 := Lib.hid (fun (W : World) => rnumM S q1 e1 40 _ _ _ W hSm hq1 (by omega) (by omega) hN1)
    obtain ⟨n, q3, e3, hN2⟩ : ∃ a0 a1 a2, Rd.num S q2 e2 8 = (a0, a1, a2) := ⟨_, _, _, rfl⟩
    have hN2le : q3 ≤ S.size := by have := Rd.num_le S q2 e2 8 hN1le; rw [hN2] at this; exact this
    have HN2 := Lib.hid (fun (W : World) => rnumM S q2 e2 8 _ _ _ W hSm hN1le (by omega) (by omega) hN2)
    have hn8 : 0 ≤ n ∧ n ≤ 8 := by have := num_max S q2 e2 8 (by omega); rw [hN2] at this; exact this
    have hlv0 : 0 ≤ lv := by have := (num_max S q1 e1 40 (by omega)).1; rw [hN1] at this; exact this
    obtain ⟨hn0, hn8⟩ := hn8
    have HG := Lib.hid (GG.overB HF.out hI hN1 hN2)
    have HZ3 := Lib.hid (num_st hN2 (num_st hN1 HZ1.out))
    have hqs := hN2le
    clear hN1 hN2 hI
    have hc16 : (w1.alloc (.cells #[.string S, .int .i64 (q1 : Int), .int .i64 e1] 130 (0, 0))).cell? ⟨w1.heap.size, 0, none⟩ = some (.string S) := by rw [cell_of_row _ _ _ _ _ _ HF14.out]; rfl
    have hc17 : (w1.alloc (.cells #[.string S, .int .i64 (q1 : Int), .int .i64 e1] 130 (0, 0))).cell? ⟨w1.heap.size, 1, none⟩ = some (.int .i64 (q1 : Int)) := by rw [cell_of_row _ _ _ _ _ _ HF14.out]; rfl
    have hc18 : (w1.alloc (.cells #[.string S, .int .i64 (q1 : Int), .int .i64 e1] 130 (0, 0))).cell? ⟨w1.heap.size, 2, none⟩ = some (.int .i64 e1) := by rw [cell_of_row _ _ _ _ _ _ HF14.out]; rfl
    go_wp2_with fail
    clear hc16 hc17 hc18
    refine (HN1.out (w1.alloc (.cells #[.string S, .int .i64 (q1 : Int), .int .i64 e1] 130 (0, 0)))).mono ?_
    rintro e w2 ⟨rfl, hb2⟩
    have HF19 := Lib.hid (blk_below HF12.out hb2)
    have HF20 := Lib.hid (blk_below HF13.out hb2)
    have HF21 := Lib.hid (blk_below HF14.out hb2)
    have HB22 := Lib.hid (HB15.out.trans (hb2.mono HB15.out.size))
    clear hb2 HB15 HF12 HF7 HF13 HF8 HF14
    have hk23 : w.heap.size < w2.heap.size := lt_of_block HF19.out
    have hk24 : w.heap.size + 1 < w2.heap.size := lt_of_block HF20.out
    have hk25 : w1.heap.size < w2.heap.size := lt_of_block HF21.out
    go_wp2_with (first
      | refine wpList_store_rowY rfl 130 (.tmp 5) (.tmp 24) rfl (w1.heap.size) #[.string S, .int .i64 (q2 : Int), .int .i64 e2] rfl rfl 130 _ HF21.out (info_scM _ _ _) rfl (one_scM _ _ _) w.heap.size w HB22.out (by omega) ?_)
    intro W3 hbk hoth hbel _
    have HF26 := Lib.hid (blk_oth HF19.out hoth.out (by omega))
    have HF27 := Lib.hid (blk_oth HF20.out hoth.out (by omega))
    have HF28 := Lib.hid hbk.out
    have HB29 := Lib.hid hbel.out
    clear hbk hoth hbel HB22  HF19 HF20 HF21
    have hc30 : W3.cell? ⟨w.heap.size + 1, 0, none⟩ = some (.int .i64 0) := by rw [cell_of_row _ _ _ _ _ _ HF27.out]; rfl
    have hc31 : W3.cell? ⟨w.heap.size + 1, 1, none⟩ = some (.slice none 0 0) := by rw [cell_of_row _ _ _ _ _ _ HF27.out]; rfl
    have hc32 : W3.cell? ⟨w.heap.size + 1, 2, none⟩ = some (.slice none 0 0) := by rw [cell_of_row _ _ _ _ _ _ HF27.out]; rfl
    have hz33 : W3.frozen? ⟨w.heap.size + 1, 0, none⟩ = false := frozen_of_row _ _ _ _ _ HF27.out
    go_upto_region 5 with (fail)
    clear hc30 hc31 hc32 hz33
    have HF34 := Lib.hid (show (W3.setCell ⟨w.heap.size + 1, 0, none⟩ (.int .i64 lv)).heap[w.heap.size]? = some (.cells #[.int .i64 0, .slice none 0 0, .slice none 0 0] 26 (0, 0)) by rw [Below.heap_setCell _ _ _ _ (by show w.heap.size ≠ w.heap.size + 1; omega)]; exact HF26.out)
    have HF35 := Lib.hid (show (W3.setCell ⟨w.heap.size + 1, 0, none⟩ (.int .i64 lv)).heap[w.heap.size + 1]? = some (.cells #[.int .i64 lv, .slice none 0 0, .slice none 0 0] 26 (0, 0)) by have h := heap_setCell_at (i := 0) (u := .int .i64 lv) HF27.out; exact h)
    have HF36 := Lib.hid (show (W3.setCell ⟨w.heap.size + 1, 0, none⟩ (.int .i64 lv)).heap[w1.heap.size]? = some (.cells #[.string S, .int .i64 (q2 : Int), .int .i64 e2] 130 (0, 0)) by rw [Below.heap_setCell _ _ _ _ (by show w1.heap.size ≠ w.heap.size + 1; omega)]; exact HF28.out)
    have HB37 := Lib.hid (HB29.out.setCell (p := ⟨w.heap.size + 1, 0, none⟩) (by show w.heap.size ≤ w.heap.size + 1; omega) (.int .i64 lv))
    have hc38 : (W3.setCell ⟨w.heap.size + 1, 0, none⟩ (.int .i64 lv)).cell? ⟨w1.heap.size, 0, none⟩ = some (.string S) := by rw [cell_of_row _ _ _ _ _ _ HF36.out]; rfl
    have hc39 : (W3.setCell ⟨w.heap.size + 1, 0, none⟩ (.int .i64 lv)).cell? ⟨w1.heap.size, 1, none⟩ = some (.int .i64 (q2 : Int)) := by rw [cell_of_row _ _ _ _ _ _ HF36.out]; rfl
    have hc40 : (W3.setCell ⟨w.heap.size + 1, 0, none⟩ (.int .i64 lv)).cell? ⟨w1.heap.size, 2, none⟩ = some (.int .i64 e2) := by rw [cell_of_row _ _ _ _ _ _ HF36.out]; rfl
    go_wp2_with fail
    clear hc38 hc39 hc40
    refine (HN2.out (W3.setCell ⟨w.heap.size + 1, 0, none⟩ (.int .i64 lv))).mono ?_
    rintro e w4 ⟨rfl, hb4⟩
    have HF41 := Lib.hid (blk_below HF34.out hb4)
    have HF42 := Lib.hid (blk_below HF35.out hb4)
    have HF43 := Lib.hid (blk_below HF36.out hb4)
    have HB44 := Lib.hid (HB37.out.trans (hb4.mono HB37.out.size))
    clear hb4 HB37 HF34 HF35 HF36
    have hk45 : w.heap.size < w4.heap.size := lt_of_block HF41.out
    have hk46 : w.heap.size + 1 < w4.heap.size := lt_of_block HF42.out
    have hk47 : w1.heap.size < w4.heap.size := lt_of_block HF43.out
    go_wp2_with (first
      | refine wpList_store_rowY rfl 130 (.tmp 5) (.tmp 30) rfl (w1.heap.size) #[.string S, .int .i64 (q3 : Int), .int .i64 e3] rfl rfl 130 _ HF43.out (info_scM _ _ _) rfl (one_scM _ _ _) w.heap.size w HB44.out (by omega) ?_)
    intro W5 hbk hoth hbel _
    have HF48 := Lib.hid (blk_oth HF41.out hoth.out (by omega))
    have HF49 := Lib.hid (blk_oth HF42.out hoth.out (by omega))
    have HF50 := Lib.hid hbk.out
    have HB51 := Lib.hid hbel.out
    clear hbk hoth hbel HB44  HF41 HF42 HF43
    have hk52 : w.heap.size < W5.heap.size := lt_of_block HF48.out
    have hk53 : w.heap.size + 1 < W5.heap.size := lt_of_block HF49.out
    have hk54 : w1.heap.size < W5.heap.size := lt_of_block HF50.out
    go_wp2_with fail
    go_loopw [8] (fun i wr => ∃ (k q : Nat) (er : Int) (es : List En) (cs : List Int) (vE vC : Value), i = .int .i64 (k : Int) ∧ (k : Int) ≤ n ∧ q ≤ S.size ∧ wr.heap[w1.heap.size]? = some (.cells #[.string S, .int .i64 (q : Int), .int .i64 er] 130 (0, 0)) ∧ wr.heap[w.heap.size + 1]? = some (.cells #[.int .i64 lv, vE, vC] 26 (0, 0)) ∧ wr.heap[w.heap.size]? = some (.cells #[.int .i64 0, .slice none 0 0, .slice none 0 0] 26 (0, 0)) ∧ OwX enC 2 36 wr (w1.heap.size + 1) vE es ∧ OwX inC 1 3 wr (w1.heap.size + 1) vC cs ∧ es.length = k ∧ cs.length ≤ k ∧ GG S q er lv n es cs k ∧ (S.size = 0 → er ≠ 0) ∧ Below w.heap.size w wr) (fun i _ => 8 - (intOf i).toNat)
    case atStart => exact ⟨0, q3, e3, [], [], _, _, rfl, by omega, hqs, HF50.out, HF49.out, HF48.out, OwX.nil _, OwX.nil _, rfl, Nat.le_refl _, HG.out, HZ3.out, HB51.out⟩
    case round =>
      obtain ⟨k, q, er, es, cs, vE, vC, rfl, hkn, hq, hbr, hbc, hbv, hoe, hoc, hle, hlc, hgg, hzz, hb⟩ := hrel
      have HR := Lib.hid hbr
      have HC := Lib.hid hbc
      have HRV := Lib.hid hbv
      have HE := Lib.hid hoe
      have HI := Lib.hid hoc
      have HGG := Lib.hid hgg
      have HB := Lib.hid hb
      have HLE := Lib.hid hle
      have HZZ := Lib.hid hzz
      have hle2 : es.length ≤ k := by omega
      have hRl := lt_of_block hbr
      have hCR : w.heap.size + 1 < w1.heap.size := hCw1
      have hvE := hoe.one
      have hvC := hoc.one
      clear hbr hbc hbv hoe hoc hgg hb hle hzz
      by_cases hlt : (k : Int) < n
      · have hd1 : decide ((k : Int) < n) = true := decide_eq_true hlt
        obtain ⟨s, q4, e4, hT1⟩ : ∃ a0 a1 a2, Rd.text S q er 64 = (a0, a1, a2) := ⟨_, _, _, rfl⟩
        have hT1le : q4 ≤ S.size := by have := Rd.text_le S q er 64 hq; rw [hT1] at this; exact this
        have HT1 := Lib.hid (fun (W : World) => rtextM S q er 64 _ _ _ W hSm hq (by omega) (by omega) hT1)
        have HR1 := Lib.hid hT1
        have HLC := Lib.hid (show cs.length ≤ k + 1 by omega)
        by_cases h0 : lv = 0
        · have HLV := Lib.hid h0
          have hlz : decide (0 < lv) = false := decide_eq_false (by omega)
          clear h0
          obtain ⟨v, q5, e5, hT2⟩ : ∃ a0 a1 a2, Rd.text S q4 e4 2048 = (a0, a1, a2) := ⟨_, _, _, rfl⟩
          have hT2le : q5 ≤ S.size := by have := Rd.text_le S q4 e4 2048 hT1le; rw [hT2] at this; exact this
          have HT2 := Lib.hid (fun (W : World) => rtextM S q4 e4 2048 _ _ _ W hSm hT1le (by omega) (by omega) hT2)
          have HG2 := Lib.hid (HGG.out.stepL HLV.out hlt hq HR1.out hT2)
          have HZ2 := Lib.hid (text_st hT2 (text_st hT1 HZZ.out))
          clear hT1 hT2
          have HK301 := Lib.hid (KK.refl [w1.heap.size, w.heap.size + 1] wr)
          have hk302 := HK301.out.size
          have hk303 : w1.heap.size < wr.heap.size := lt_of_block HR.out
          have hk304 : w.heap.size + 1 < wr.heap.size := lt_of_block HC.out
          have hk305 : w.heap.size < wr.heap.size := lt_of_block HRV.out
          have HF306 := Lib.hid (blk_alloc HR.out (.cells #[.string ⟨#[]⟩, .string ⟨#[]⟩] 36 (0, 0)))
          have HF307 := Lib.hid (blk_alloc HC.out (.cells #[.string ⟨#[]⟩, .string ⟨#[]⟩] 36 (0, 0)))
          have HF308 := Lib.hid (blk_alloc HRV.out (.cells #[.string ⟨#[]⟩, .string ⟨#[]⟩] 36 (0, 0)))
          have HF309 := Lib.hid (blk_new wr (.cells #[.string ⟨#[]⟩, .string ⟨#[]⟩] 36 (0, 0)))
          have HK310 := Lib.hid (HK301.out.alloc (.cells #[.string ⟨#[]⟩, .string ⟨#[]⟩] 36 (0, 0)))
          clear HK301
          have hc311 : (wr.alloc (.cells #[.string ⟨#[]⟩, .string ⟨#[]⟩] 36 (0, 0))).cell? ⟨w1.heap.size, 0, none⟩ = some (.string S) := by rw [cell_of_row _ _ _ _ _ _ HF306.out]; rfl
          have hc312 : wr.cell? ⟨w1.heap.size, 0, none⟩ = some (.string S) := by rw [cell_of_row _ _ _ _ _ _ HR.out]; rfl
          have hc313 : (wr.alloc (.cells #[.string ⟨#[]⟩, .string ⟨#[]⟩] 36 (0, 0))).cell? ⟨w1.heap.size, 1, none⟩ = some (.int .i64 (q : Int)) := by rw [cell_of_row _ _ _ _ _ _ HF306.out]; rfl
          have hc314 : wr.cell? ⟨w1.heap.size, 1, none⟩ = some (.int .i64 (q : Int)) := by rw [cell_of_row _ _ _ _ _ _ HR.out]; rfl
          have hc315 : (wr.alloc (.cells #[.string ⟨#[]⟩, .string ⟨#[]⟩] 36 (0, 0))).cell? ⟨w1.heap.size, 2, none⟩ = some (.int .i64 er) := by rw [cell_of_row _ _ _ _ _ _ HF306.out]; rfl
          have hc316 : wr.cell? ⟨w1.heap.size, 2, none⟩ = some (.int .i64 er) := by rw [cell_of_row _ _ _ _ _ _ HR.out]; rfl
          have hl317 : w1.heap.size < wr.heap.size := lt_of_block HR.out
          have hl318 : ¬ w1.heap.size = wr.heap.size := by omega
          go_wp2_with fail
          clear hc311 hc312 hc313 hc314 hc315 hc316 hl317 hl318
          refine (HT1.out (wr.alloc (.cells #[.string ⟨#[]⟩, .string ⟨#[]⟩] 36 (0, 0)))).mono ?_
          rintro e w21 ⟨rfl, hb21⟩
          have HF319 := Lib.hid (blk_below HF306.out hb21)
          have HF320 := Lib.hid (blk_below HF307.out hb21)
          have HF321 := Lib.hid (blk_below HF308.out hb21)
          have HF322 := Lib.hid (blk_below HF309.out hb21)
          have HK323 := Lib.hid (HK310.out.trans (KK.of_below hb21))
          clear hb21 HK310 HF306 HR HF307 HC HF308 HRV HF309
          have hk324 := HK323.out.size
          have hk325 : w1.heap.size < w21.heap.size := lt_of_block HF319.out
          have hk326 : w.heap.size + 1 < w21.heap.size := lt_of_block HF320.out
          have hk327 : w.heap.size < w21.heap.size := lt_of_block HF321.out
          have hk328 : wr.heap.size < w21.heap.size := lt_of_block HF322.out
          go_wp2_with (first
            | refine wpList_store_rowY rfl 130 (.tmp 5) (.tmp 40) rfl (w1.heap.size) #[.string S, .int .i64 (q4 : Int), .int .i64 e4] rfl rfl 130 _ HF319.out (info_scM _ _ _) rfl (one_scM _ _ _) (w1.heap.size) w21 (Below.refl _ _) (Nat.le_refl _) ?_)
          intro W22 hbk hoth hbel _
          have HF329 := Lib.hid hbk.out
          have HF330 := Lib.hid (blk_oth HF320.out hoth.out (by omega))
          have HF331 := Lib.hid (blk_oth HF321.out hoth.out (by omega))
          have HF332 := Lib.hid (blk_oth HF322.out hoth.out (by omega))
          have HK333 := Lib.hid (HK323.out.row (b := w1.heap.size) (Or.inl (by simp)) hbel.out hoth.out)
          clear hbk hoth hbel HK323 HF319 HF320 HF321 HF322
          have hk334 := HK333.out.size
          have hk335 : w1.heap.size < W22.heap.size := lt_of_block HF329.out
          have hk336 : w.heap.size + 1 < W22.heap.size := lt_of_block HF330.out
          have hk337 : w.heap.size < W22.heap.size := lt_of_block HF331.out
          have hk338 : wr.heap.size < W22.heap.size := lt_of_block HF332.out
          have hc339 : W22.cell? ⟨wr.heap.size, 0, none⟩ = some (.string ⟨#[]⟩) := by rw [cell_of_row _ _ _ _ _ _ HF332.out]; rfl
          have hc340 : W22.cell? ⟨wr.heap.size, 1, none⟩ = some (.string ⟨#[]⟩) := by rw [cell_of_row _ _ _ _ _ _ HF332.out]; rfl
          have hz341 : W22.frozen? ⟨wr.heap.size, 0, none⟩ = false := frozen_of_row _ _ _ _ _ HF332.out
          go_upto_region 11 with (fail)
          clear hc339 hc340 hz341
          have HF342 := Lib.hid (show (W22.setCell ⟨wr.heap.size, 0, none⟩ (.string s)).heap[w1.heap.size]? = some (.cells #[.string S, .int .i64 (q4 : Int), .int .i64 e4] 130 (0, 0)) by rw [Below.heap_setCell _ _ _ _ (by show w1.heap.size ≠ wr.heap.size; omega)]; exact HF329.out)
          have HF343 := Lib.hid (show (W22.setCell ⟨wr.heap.size, 0, none⟩ (.string s)).heap[w.heap.size + 1]? = some (.cells #[.int .i64 lv, vE, vC] 26 (0, 0)) by rw [Below.heap_setCell _ _ _ _ (by show w.heap.size + 1 ≠ wr.heap.size; omega)]; exact HF330.out)
          have HF344 := Lib.hid (show (W22.setCell ⟨wr.heap.size, 0, none⟩ (.string s)).heap[w.heap.size]? = some (.cells #[.int .i64 0, .slice none 0 0, .slice none 0 0] 26 (0, 0)) by rw [Below.heap_setCell _ _ _ _ (by show w.heap.size ≠ wr.heap.size; omega)]; exact HF331.out)
          have HF345 := Lib.hid (show (W22.setCell ⟨wr.heap.size, 0, none⟩ (.string s)).heap[wr.heap.size]? = some (.cells #[.string s, .string ⟨#[]⟩] 36 (0, 0)) by have h := heap_setCell_at (i := 0) (u := .string s) HF332.out; exact h)
          have HK346 := Lib.hid (HK333.out.setNew (b := wr.heap.size) (by omega) 0 (.string s))
          obtain ⟨wk, hwk⟩ : ∃ wk, wk = (W22.setCell ⟨wr.heap.size, 0, none⟩ (.string s)) := ⟨_, rfl⟩
          rw [← hwk] at HF342 HF343 HF344 HF345 HK346
          rw [← hwk]
          clear hwk
          have hk347 : w1.heap.size < wk.heap.size := lt_of_block HF342.out
          have hk348 : w.heap.size + 1 < wk.heap.size := lt_of_block HF343.out
          have hk349 : w.heap.size < wk.heap.size := lt_of_block HF344.out
          have hk350 : wr.heap.size < wk.heap.size := lt_of_block HF345.out
          have hc351 : wk.cell? ⟨w.heap.size + 1, 0, none⟩ = some (.int .i64 lv) := by rw [cell_of_row _ _ _ _ _ _ HF343.out]; rfl
          have hc352 : wk.cell? ⟨w.heap.size + 1, 1, none⟩ = some (vE) := by rw [cell_of_row _ _ _ _ _ _ HF343.out]; rfl
          have hc353 : wk.cell? ⟨w.heap.size + 1, 2, none⟩ = some (vC) := by rw [cell_of_row _ _ _ _ _ _ HF343.out]; rfl
          have hc354 : wk.cell? ⟨w1.heap.size, 0, none⟩ = some (.string S) := by rw [cell_of_row _ _ _ _ _ _ HF342.out]; rfl
          have hc355 : wk.cell? ⟨w1.heap.size, 1, none⟩ = some (.int .i64 (q4 : Int)) := by rw [cell_of_row _ _ _ _ _ _ HF342.out]; rfl
          have hc356 : wk.cell? ⟨w1.heap.size, 2, none⟩ = some (.int .i64 e4) := by rw [cell_of_row _ _ _ _ _ _ HF342.out]; rfl
          go_wp2_with fail
          clear hc351 hc352 hc353 hc354 hc355 hc356
          refine (HT2.out wk).mono ?_
          rintro e w23 ⟨rfl, hb23⟩
          have HF357 := Lib.hid (blk_below HF342.out hb23)
          have HF358 := Lib.hid (blk_below HF343.out hb23)
          have HF359 := Lib.hid (blk_below HF344.out hb23)
          have HF360 := Lib.hid (blk_below HF345.out hb23)
          have HK361 := Lib.hid (HK346.out.trans (KK.of_below hb23))
          clear hb23 HK346 HF342 HF343 HF344 HF345
          have hk362 := HK361.out.size
          have hk363 : w1.heap.size < w23.heap.size := lt_of_block HF357.out
          have hk364 : w.heap.size + 1 < w23.heap.size := lt_of_block HF358.out
          have hk365 : w.heap.size < w23.heap.size := lt_of_block HF359.out
          have hk366 : wr.heap.size < w23.heap.size := lt_of_block HF360.out
          go_wp2_with (first
            | refine wpList_store_rowY rfl 130 (.tmp 5) (.tmp 68) rfl (w1.heap.size) #[.string S, .int .i64 (q5 : Int), .int .i64 e5] rfl rfl 130 _ HF357.out (info_scM _ _ _) rfl (one_scM _ _ _) (w1.heap.size) w23 (Below.refl _ _) (Nat.le_refl _) ?_)
          intro W24 hbk hoth hbel _
          have HF367 := Lib.hid hbk.out
          have HF368 := Lib.hid (blk_oth HF358.out hoth.out (by omega))
          have HF369 := Lib.hid (blk_oth HF359.out hoth.out (by omega))
          have HF370 := Lib.hid (blk_oth HF360.out hoth.out (by omega))
          have HK371 := Lib.hid (HK361.out.row (b := w1.heap.size) (Or.inl (by simp)) hbel.out hoth.out)
          clear hbk hoth hbel HK361 HF357 HF358 HF359 HF360
          have hk372 := HK371.out.size
          have hk373 : w1.heap.size < W24.heap.size := lt_of_block HF367.out
          have hk374 : w.heap.size + 1 < W24.heap.size := lt_of_block HF368.out
          have hk375 : w.heap.size < W24.heap.size := lt_of_block HF369.out
          have hk376 : wr.heap.size < W24.heap.size := lt_of_block HF370.out
          have hc377 : W24.cell? ⟨wr.heap.size, 0, none⟩ = some (.string s) := by rw [cell_of_row _ _ _ _ _ _ HF370.out]; rfl
          have hc378 : W24.cell? ⟨wr.heap.size, 1, none⟩ = some (.string ⟨#[]⟩) := by rw [cell_of_row _ _ _ _ _ _ HF370.out]; rfl
          have hz379 : W24.frozen? ⟨wr.heap.size, 1, none⟩ = false := frozen_of_row _ _ _ _ _ HF370.out
          go_upto_region 18 with (fail)
          clear hc377 hc378 hz379
          have HF380 := Lib.hid (show (W24.setCell ⟨wr.heap.size, 1, none⟩ (.string v)).heap[w1.heap.size]? = some (.cells #[.string S, .int .i64 (q5 : Int), .int .i64 e5] 130 (0, 0)) by rw [Below.heap_setCell _ _ _ _ (by show w1.heap.size ≠ wr.heap.size; omega)]; exact HF367.out)
          have HF381 := Lib.hid (show (W24.setCell ⟨wr.heap.size, 1, none⟩ (.string v)).heap[w.heap.size + 1]? = some (.cells #[.int .i64 lv, vE, vC] 26 (0, 0)) by rw [Below.heap_setCell _ _ _ _ (by show w.heap.size + 1 ≠ wr.heap.size; omega)]; exact HF368.out)
          have HF382 := Lib.hid (show (W24.setCell ⟨wr.heap.size, 1, none⟩ (.string v)).heap[w.heap.size]? = some (.cells #[.int .i64 0, .slice none 0 0, .slice none 0 0] 26 (0, 0)) by rw [Below.heap_setCell _ _ _ _ (by show w.heap.size ≠ wr.heap.size; omega)]; exact HF369.out)
          have HF383 := Lib.hid (show (W24.setCell ⟨wr.heap.size, 1, none⟩ (.string v)).heap[wr.heap.size]? = some (.cells #[.string s, .string v] 36 (0, 0)) by have h := heap_setCell_at (i := 1) (u := .string v) HF370.out; exact h)
          have HK384 := Lib.hid (HK371.out.setNew (b := wr.heap.size) (by omega) 1 (.string v))
          obtain ⟨wa, hwa⟩ : ∃ wa, wa = (W24.setCell ⟨wr.heap.size, 1, none⟩ (.string v)) := ⟨_, rfl⟩
          rw [← hwa] at HF380 HF381 HF382 HF383 HK384
          rw [← hwa]
          clear hwa
          have hk385 : w1.heap.size < wa.heap.size := lt_of_block HF380.out
          have hk386 : w.heap.size + 1 < wa.heap.size := lt_of_block HF381.out
          have hk387 : w.heap.size < wa.heap.size := lt_of_block HF382.out
          have hk388 : wr.heap.size < wa.heap.size := lt_of_block HF383.out
          have HEa7 := Lib.hid (HE.out.kk HK384.out (by simp; omega))
          have HIa7 := Lib.hid (HI.out.kk HK384.out (by simp; omega))
          have HBa7 := Lib.hid (HK384.out.below HB.out (by simp; omega) (by have := HB.out.size; omega))
          have HRa7 := Lib.hid (Below.refl (w1.heap.size + 1) wa)
          have hc389 : wa.cell? ⟨w.heap.size + 1, 0, none⟩ = some (.int .i64 lv) := by rw [cell_of_row _ _ _ _ _ _ HF381.out]; rfl
          have hc390 : wa.cell? ⟨w.heap.size + 1, 1, none⟩ = some (vE) := by rw [cell_of_row _ _ _ _ _ _ HF381.out]; rfl
          have hc391 : wa.cell? ⟨w.heap.size + 1, 2, none⟩ = some (vC) := by rw [cell_of_row _ _ _ _ _ _ HF381.out]; rfl
          have hc392 : wa.cell? ⟨wr.heap.size, 0, none⟩ = some (.string s) := by rw [cell_of_row _ _ _ _ _ _ HF383.out]; rfl
          have hc393 : wa.cell? ⟨wr.heap.size, 1, none⟩ = some (.string v) := by rw [cell_of_row _ _ _ _ _ _ HF383.out]; rfl
          go_wp2_with (at_builtin; refine wpList_appX rfl (.tmp 72) (.tmp 74) 23 36 _ 32 rfl Try.underlying23 info_enA rfl (by omega) (by omega) enC_len enC_one (w1.heap.size + 1) wa (HRa7.out.alloc (by omega) _) (by simp; omega) vE es rfl (HEa7.out.alloc _) wa.heap.size 1 (s, v) #[.string s, .string v] 36 (0, 0) rfl (heap_alloc_new wa _) rfl (by omega) ?_)
          intro v7 w7 HO7 HB7 HZ7 HG7
          clear hc389 hc390 hc391 hc392 hc393
          have HC7 := Lib.hid ((HB7.out.block (w.heap.size + 1) (by omega)).trans HF381.out)
          have HR7 := Lib.hid ((HB7.out.block (w1.heap.size) (by omega)).trans HF380.out)
          have HRV7 := Lib.hid ((HB7.out.block (w.heap.size) (by omega)).trans HF382.out)
          have HOT7 := Lib.hid ((HIa7.out.alloc _).other (HEa7.out.alloc _) (by decide) HG7.out)
          have HL7 := Lib.hid (HBa7.out.trans (HB7.out.mono (by omega)))
          have hRl7 : w1.heap.size < w7.heap.size := lt_of_block HR7.out
          obtain ⟨A7, n7, c7, rfl⟩ := HO7.out.sl3
          clear HEa7 HIa7 HBa7 HRa7
          have HK594 := Lib.hid (KK.refl [w1.heap.size, w.heap.size + 1] w7)
          have hc595 : w7.cell? ⟨w.heap.size + 1, 0, none⟩ = some (.int .i64 lv) := by rw [cell_of_row _ _ _ _ _ _ HC7.out]; rfl
          have hc596 : w7.cell? ⟨w.heap.size + 1, 1, none⟩ = some (vE) := by rw [cell_of_row _ _ _ _ _ _ HC7.out]; rfl
          have hc597 : w7.cell? ⟨w.heap.size + 1, 2, none⟩ = some (vC) := by rw [cell_of_row _ _ _ _ _ _ HC7.out]; rfl
          have hz598 : w7.frozen? ⟨w.heap.size + 1, 1, none⟩ = false := frozen_of_row _ _ _ _ _ HC7.out
          go_wp2_with fail
          clear hc595 hc596 hc597 hz598
          have HF599 := Lib.hid (show (w7.setCell ⟨w.heap.size + 1, 1, none⟩ (.slice A7 n7 c7)).heap[w1.heap.size]? = some (.cells #[.string S, .int .i64 (q5 : Int), .int .i64 e5] 130 (0, 0)) by rw [Below.heap_setCell _ _ _ _ (by show w1.heap.size ≠ w.heap.size + 1; omega)]; exact HR7.out)
          have HF600 := Lib.hid (show (w7.setCell ⟨w.heap.size + 1, 1, none⟩ (.slice A7 n7 c7)).heap[w.heap.size + 1]? = some (.cells #[.int .i64 lv, .slice A7 n7 c7, vC] 26 (0, 0)) by have h := heap_setCell_at (i := 1) (u := .slice A7 n7 c7) HC7.out; exact h)
          have HF601 := Lib.hid (show (w7.setCell ⟨w.heap.size + 1, 1, none⟩ (.slice A7 n7 c7)).heap[w.heap.size]? = some (.cells #[.int .i64 0, .slice none 0 0, .slice none 0 0] 26 (0, 0)) by rw [Below.heap_setCell _ _ _ _ (by show w.heap.size ≠ w.heap.size + 1; omega)]; exact HRV7.out)
          have HK602 := Lib.hid (HK594.out.set (b := w.heap.size + 1) (by simp) 1 (.slice A7 n7 c7))
          go_roundw
          case rel => exact ⟨k + 1, q5, e5, es ++ [(s, v)], cs, _, _, by go_num, by omega, hT2le, HF599.out, HF600.out, HF601.out, HO7.out.kk HK602.out (by simp; omega), HOT7.out.kk HK602.out (by simp; omega), by rw [List.length_append, HLE.out]; rfl, HLC.out, HG2.out, HZ2.out, HK602.out.below HL7.out (by simp; omega) (by have := HL7.out.size; omega)⟩
          case measure => simp [intOf] <;> omega
        · have HLV := Lib.hid (show lv ≠ 0 from h0)
          have hlz : decide (0 < lv) = true := decide_eq_true (by omega)
          clear h0
          obtain ⟨v, q5, e5, hT2⟩ : ∃ a0 a1 a2, Rd.fix S q4 e4 32 = (a0, a1, a2) := ⟨_, _, _, rfl⟩
          have hT2le : q5 ≤ S.size := by have := Rd.fix_le S q4 e4 32 hT1le; rw [hT2] at this; exact this
          have HT2 := Lib.hid (fun (W : World) => rfixM S q4 e4 32 _ _ _ W hSm hT1le (by omega) (by omega) hT2)
          obtain ⟨c, q6, e6, hT3⟩ : ∃ a0 a1 a2, Rd.num S q5 e5 2147483648 = (a0, a1, a2) := ⟨_, _, _, rfl⟩
          have hT3le : q6 ≤ S.size := by have := Rd.num_le S q5 e5 2147483648 hT2le; rw [hT3] at this; exact this
          have HT3 := Lib.hid (fun (W : World) => rnumM S q5 e5 2147483648 _ _ _ W hSm hT2le (by omega) (by omega) hT3)
          have HG2 := Lib.hid (HGG.out.stepI HLV.out hlt hq HR1.out hT2 hT3)
          have HZ2 := Lib.hid (num_st hT3 (fix_st hT2 (text_st hT1 HZZ.out)))
          clear hT1 hT2 hT3
          have HK301 := Lib.hid (KK.refl [w1.heap.size, w.heap.size + 1] wr)
          have hk302 := HK301.out.size
          have hk303 : w1.heap.size < wr.heap.size := lt_of_block HR.out
          have hk304 : w.heap.size + 1 < wr.heap.size := lt_of_block HC.out
          have hk305 : w.heap.size < wr.heap.size := lt_of_block HRV.out
          have HF306 := Lib.hid (blk_alloc HR.out (.cells #[.string ⟨#[]⟩, .string ⟨#[]⟩] 36 (0, 0)))
          have HF307 := Lib.hid (blk_alloc HC.out (.cells #[.string ⟨#[]⟩, .string ⟨#[]⟩] 36 (0, 0)))
          have HF308 := Lib.hid (blk_alloc HRV.out (.cells #[.string ⟨#[]⟩, .string ⟨#[]⟩] 36 (0, 0)))
          have HF309 := Lib.hid (blk_new wr (.cells #[.string ⟨#[]⟩, .string ⟨#[]⟩] 36 (0, 0)))
          have HK310 := Lib.hid (HK301.out.alloc (.cells #[.string ⟨#[]⟩, .string ⟨#[]⟩] 36 (0, 0)))
          clear HK301
          have hc311 : (wr.alloc (.cells #[.string ⟨#[]⟩, .string ⟨#[]⟩] 36 (0, 0))).cell? ⟨w1.heap.size, 0, none⟩ = some (.string S) := by rw [cell_of_row _ _ _ _ _ _ HF306.out]; rfl
          have hc312 : wr.cell? ⟨w1.heap.size, 0, none⟩ = some (.string S) := by rw [cell_of_row _ _ _ _ _ _ HR.out]; rfl
          have hc313 : (wr.alloc (.cells #[.string ⟨#[]⟩, .string ⟨#[]⟩] 36 (0, 0))).cell? ⟨w1.heap.size, 1, none⟩ = some (.int .i64 (q : Int)) := by rw [cell_of_row _ _ _ _ _ _ HF306.out]; rfl
          have hc314 : wr.cell? ⟨w1.heap.size, 1, none⟩ = some (.int .i64 (q : Int)) := by rw [cell_of_row _ _ _ _ _ _ HR.out]; rfl
          have hc315 : (wr.alloc (.cells #[.string ⟨#[]⟩, .string ⟨#[]⟩] 36 (0, 0))).cell? ⟨w1.heap.size, 2, none⟩ = some (.int .i64 er) := by rw [cell_of_row _ _ _ _ _ _ HF306.out]; rfl
          have hc316 : wr.cell? ⟨w1.heap.size, 2, none⟩ = some (.int .i64 er) := by rw [cell_of_row _ _ _ _ _ _ HR.out]; rfl
          have hl317 : w1.heap.size < wr.heap.size := lt_of_block HR.out
          have hl318 : ¬ w1.heap.size = wr.heap.size := by omega
          go_wp2_with fail
          clear hc311 hc312 hc313 hc314 hc315 hc316 hl317 hl318
          refine (HT1.out (wr.alloc (.cells #[.string ⟨#[]⟩, .string ⟨#[]⟩] 36 (0, 0)))).mono ?_
          rintro e w21 ⟨rfl, hb21⟩
          have HF319 := Lib.hid (blk_below HF306.out hb21)
          have HF320 := Lib.hid (blk_below HF307.out hb21)
          have HF321 := Lib.hid (blk_below HF308.out hb21)
          have HF322 := Lib.hid (blk_below HF309.out hb21)
          have HK323 := Lib.hid (HK310.out.trans (KK.of_below hb21))
          clear hb21 HK310 HF306 HR HF307 HC HF308 HRV HF309
          have hk324 := HK323.out.size
          have hk325 : w1.heap.size < w21.heap.size := lt_of_block HF319.out
          have hk326 : w.heap.size + 1 < w21.heap.size := lt_of_block HF320.out
          have hk327 : w.heap.size < w21.heap.size := lt_of_block HF321.out
          have hk328 : wr.heap.size < w21.heap.size := lt_of_block HF322.out
          go_wp2_with (first
            | refine wpList_store_rowY rfl 130 (.tmp 5) (.tmp 40) rfl (w1.heap.size) #[.string S, .int .i64 (q4 : Int), .int .i64 e4] rfl rfl 130 _ HF319.out (info_scM _ _ _) rfl (one_scM _ _ _) (w1.heap.size) w21 (Below.refl _ _) (Nat.le_refl _) ?_)
          intro W22 hbk hoth hbel _
          have HF329 := Lib.hid hbk.out
          have HF330 := Lib.hid (blk_oth HF320.out hoth.out (by omega))
          have HF331 := Lib.hid (blk_oth HF321.out hoth.out (by omega))
          have HF332 := Lib.hid (blk_oth HF322.out hoth.out (by omega))
          have HK333 := Lib.hid (HK323.out.row (b := w1.heap.size) (Or.inl (by simp)) hbel.out hoth.out)
          clear hbk hoth hbel HK323 HF319 HF320 HF321 HF322
          have hk334 := HK333.out.size
          have hk335 : w1.heap.size < W22.heap.size := lt_of_block HF329.out
          have hk336 : w.heap.size + 1 < W22.heap.size := lt_of_block HF330.out
          have hk337 : w.heap.size < W22.heap.size := lt_of_block HF331.out
          have hk338 : wr.heap.size < W22.heap.size := lt_of_block HF332.out
          have hc339 : W22.cell? ⟨wr.heap.size, 0, none⟩ = some (.string ⟨#[]⟩) := by rw [cell_of_row _ _ _ _ _ _ HF332.out]; rfl
          have hc340 : W22.cell? ⟨wr.heap.size, 1, none⟩ = some (.string ⟨#[]⟩) := by rw [cell_of_row _ _ _ _ _ _ HF332.out]; rfl
          have hz341 : W22.frozen? ⟨wr.heap.size, 0, none⟩ = false := frozen_of_row _ _ _ _ _ HF332.out
          go_upto_region 11 with (fail)
          clear hc339 hc340 hz341
          have HF342 := Lib.hid (show (W22.setCell ⟨wr.heap.size, 0, none⟩ (.string s)).heap[w1.heap.size]? = some (.cells #[.string S, .int .i64 (q4 : Int), .int .i64 e4] 130 (0, 0)) by rw [Below.heap_setCell _ _ _ _ (by show w1.heap.size ≠ wr.heap.size; omega)]; exact HF329.out)
          have HF343 := Lib.hid (show (W22.setCell ⟨wr.heap.size, 0, none⟩ (.string s)).heap[w.heap.size + 1]? = some (.cells #[.int .i64 lv, vE, vC] 26 (0, 0)) by rw [Below.heap_setCell _ _ _ _ (by show w.heap.size + 1 ≠ wr.heap.size; omega)]; exact HF330.out)
          have HF344 := Lib.hid (show (W22.setCell ⟨wr.heap.size, 0, none⟩ (.string s)).heap[w.heap.size]? = some (.cells #[.int .i64 0, .slice none 0 0, .slice none 0 0] 26 (0, 0)) by rw [Below.heap_setCell _ _ _ _ (by show w.heap.size ≠ wr.heap.size; omega)]; exact HF331.out)
          have HF345 := Lib.hid (show (W22.setCell ⟨wr.heap.size, 0, none⟩ (.string s)).heap[wr.heap.size]? = some (.cells #[.string s, .string ⟨#[]⟩] 36 (0, 0)) by have h := heap_setCell_at (i := 0) (u := .string s) HF332.out; exact h)
          have HK346 := Lib.hid (HK333.out.setNew (b := wr.heap.size) (by omega) 0 (.string s))
          obtain ⟨wk, hwk⟩ : ∃ wk, wk = (W22.setCell ⟨wr.heap.size, 0, none⟩ (.string s)) := ⟨_, rfl⟩
          rw [← hwk] at HF342 HF343 HF344 HF345 HK346
          rw [← hwk]
          clear hwk
          have hk347 : w1.heap.size < wk.heap.size := lt_of_block HF342.out
          have hk348 : w.heap.size + 1 < wk.heap.size := lt_of_block HF343.out
          have hk349 : w.heap.size < wk.heap.size := lt_of_block HF344.out
          have hk350 : wr.heap.size < wk.heap.size := lt_of_block HF345.out
          have hc351 : wk.cell? ⟨w.heap.size + 1, 0, none⟩ = some (.int .i64 lv) := by rw [cell_of_row _ _ _ _ _ _ HF343.out]; rfl
          have hc352 : wk.cell? ⟨w.heap.size + 1, 1, none⟩ = some (vE) := by rw [cell_of_row _ _ _ _ _ _ HF343.out]; rfl
          have hc353 : wk.cell? ⟨w.heap.size + 1, 2, none⟩ = some (vC) := by rw [cell_of_row _ _ _ _ _ _ HF343.out]; rfl
          have hc354 : wk.cell? ⟨w1.heap.size, 0, none⟩ = some (.string S) := by rw [cell_of_row _ _ _ _ _ _ HF342.out]; rfl
          have hc355 : wk.cell? ⟨w1.heap.size, 1, none⟩ = some (.int .i64 (q4 : Int)) := by rw [cell_of_row _ _ _ _ _ _ HF342.out]; rfl
          have hc356 : wk.cell? ⟨w1.heap.size, 2, none⟩ = some (.int .i64 e4) := by rw [cell_of_row _ _ _ _ _ _ HF342.out]; rfl
          go_wp2_with fail
          clear hc351 hc352 hc353 hc354 hc355 hc356
          refine (HT2.out wk).mono ?_
          rintro e w23 ⟨rfl, hb23⟩
          have HF357 := Lib.hid (blk_below HF342.out hb23)
          have HF358 := Lib.hid (blk_below HF343.out hb23)
          have HF359 := Lib.hid (blk_below HF344.out hb23)
          have HF360 := Lib.hid (blk_below HF345.out hb23)
          have HK361 := Lib.hid (HK346.out.trans (KK.of_below hb23))
          clear hb23 HK346 HF342 HF343 HF344 HF345
          have hk362 := HK361.out.size
          have hk363 : w1.heap.size < w23.heap.size := lt_of_block HF357.out
          have hk364 : w.heap.size + 1 < w23.heap.size := lt_of_block HF358.out
          have hk365 : w.heap.size < w23.heap.size := lt_of_block HF359.out
          have hk366 : wr.heap.size < w23.heap.size := lt_of_block HF360.out
          have HF367 := Lib.hid (blk_alloc HF357.out (.cells #[.string S, .int .i64 (q5 : Int), .int .i64 e5] 130 (0, 0)))
          have HF368 := Lib.hid (blk_alloc HF358.out (.cells #[.string S, .int .i64 (q5 : Int), .int .i64 e5] 130 (0, 0)))
          have HF369 := Lib.hid (blk_alloc HF359.out (.cells #[.string S, .int .i64 (q5 : Int), .int .i64 e5] 130 (0, 0)))
          have HF370 := Lib.hid (blk_alloc HF360.out (.cells #[.string S, .int .i64 (q5 : Int), .int .i64 e5] 130 (0, 0)))
          have HF371 := Lib.hid (blk_new w23 (.cells #[.string S, .int .i64 (q5 : Int), .int .i64 e5] 130 (0, 0)))
          have HK372 := Lib.hid (HK361.out.alloc (.cells #[.string S, .int .i64 (q5 : Int), .int .i64 e5] 130 (0, 0)))
          clear HK361
          have hc373 : (w23.alloc (.cells #[.string S, .int .i64 (q5 : Int), .int .i64 e5] 130 (0, 0))).cell? ⟨w23.heap.size, 0, none⟩ = some (.string S) := by rw [cell_of_row _ _ _ _ _ _ HF371.out]; rfl
          have hc374 : (w23.alloc (.cells #[.string S, .int .i64 (q5 : Int), .int .i64 e5] 130 (0, 0))).cell? ⟨w23.heap.size, 1, none⟩ = some (.int .i64 (q5 : Int)) := by rw [cell_of_row _ _ _ _ _ _ HF371.out]; rfl
          have hc375 : (w23.alloc (.cells #[.string S, .int .i64 (q5 : Int), .int .i64 e5] 130 (0, 0))).cell? ⟨w23.heap.size, 2, none⟩ = some (.int .i64 e5) := by rw [cell_of_row _ _ _ _ _ _ HF371.out]; rfl
          go_wp2_with fail
          clear hc373 hc374 hc375
          refine (HT3.out (w23.alloc (.cells #[.string S, .int .i64 (q5 : Int), .int .i64 e5] 130 (0, 0)))).mono ?_
          rintro e w24 ⟨rfl, hb24⟩
          have HF376 := Lib.hid (blk_below HF367.out hb24)
          have HF377 := Lib.hid (blk_below HF368.out hb24)
          have HF378 := Lib.hid (blk_below HF369.out hb24)
          have HF379 := Lib.hid (blk_below HF370.out hb24)
          have HF380 := Lib.hid (blk_below HF371.out hb24)
          have HK381 := Lib.hid (HK372.out.trans (KK.of_below hb24))
          clear hb24 HK372 HF367 HF357 HF368 HF358 HF369 HF359 HF370 HF360 HF371
          have hk382 := HK381.out.size
          have hk383 : w1.heap.size < w24.heap.size := lt_of_block HF376.out
          have hk384 : w.heap.size + 1 < w24.heap.size := lt_of_block HF377.out
          have hk385 : w.heap.size < w24.heap.size := lt_of_block HF378.out
          have hk386 : wr.heap.size < w24.heap.size := lt_of_block HF379.out
          have hk387 : w23.heap.size < w24.heap.size := lt_of_block HF380.out
          go_wp2_with (first
            | refine wpList_store_rowY rfl 130 (.tmp 10) (.tmp 54) rfl (w23.heap.size) #[.string S, .int .i64 (q6 : Int), .int .i64 e6] rfl rfl 130 _ HF380.out (info_scM _ _ _) rfl (one_scM _ _ _) (w23.heap.size) w24 (Below.refl _ _) (Nat.le_refl _) ?_)
          intro W25 hbk hoth hbel _
          have HF388 := Lib.hid (blk_oth HF376.out hoth.out (by omega))
          have HF389 := Lib.hid (blk_oth HF377.out hoth.out (by omega))
          have HF390 := Lib.hid (blk_oth HF378.out hoth.out (by omega))
          have HF391 := Lib.hid (blk_oth HF379.out hoth.out (by omega))
          have HF392 := Lib.hid hbk.out
          have HK393 := Lib.hid (HK381.out.row (b := w23.heap.size) (Or.inr (by omega)) hbel.out hoth.out)
          clear hbk hoth hbel HK381 HF376 HF377 HF378 HF379 HF380
          have hk394 := HK393.out.size
          have hk395 : w1.heap.size < W25.heap.size := lt_of_block HF388.out
          have hk396 : w.heap.size + 1 < W25.heap.size := lt_of_block HF389.out
          have hk397 : w.heap.size < W25.heap.size := lt_of_block HF390.out
          have hk398 : wr.heap.size < W25.heap.size := lt_of_block HF391.out
          have hk399 : w23.heap.size < W25.heap.size := lt_of_block HF392.out
          go_wp2_with (first
            | refine wpList_store_rowY rfl 130 (.tmp 5) (.tmp 56) rfl (w1.heap.size) #[.string S, .int .i64 (q6 : Int), .int .i64 e6] rfl rfl 130 _ HF388.out (info_scM _ _ _) rfl (one_scM _ _ _) (w1.heap.size) W25 (Below.refl _ _) (Nat.le_refl _) ?_
            | refine wpList_load_row rfl 130 (.tmp 10) rfl (w23.heap.size) rfl 130 #[.string S, .int .i64 (q6 : Int), .int .i64 e6] (0, 0) _ HF392.out Try.underlying130 rfl (info_scM _ _ _) ?_)
          intro W26 hbk hoth hbel _
          have HF400 := Lib.hid hbk.out
          have HF401 := Lib.hid (blk_oth HF389.out hoth.out (by omega))
          have HF402 := Lib.hid (blk_oth HF390.out hoth.out (by omega))
          have HF403 := Lib.hid (blk_oth HF391.out hoth.out (by omega))
          have HF404 := Lib.hid (blk_oth HF392.out hoth.out (by omega))
          have HK405 := Lib.hid (HK393.out.row (b := w1.heap.size) (Or.inl (by simp)) hbel.out hoth.out)
          clear hbk hoth hbel HK393 HF388 HF389 HF390 HF391 HF392
          have hk406 := HK405.out.size
          have hk407 : w1.heap.size < W26.heap.size := lt_of_block HF400.out
          have hk408 : w.heap.size + 1 < W26.heap.size := lt_of_block HF401.out
          have hk409 : w.heap.size < W26.heap.size := lt_of_block HF402.out
          have hk410 : wr.heap.size < W26.heap.size := lt_of_block HF403.out
          have hk411 : w23.heap.size < W26.heap.size := lt_of_block HF404.out
          have hc412 : W26.cell? ⟨wr.heap.size, 0, none⟩ = some (.string s) := by rw [cell_of_row _ _ _ _ _ _ HF403.out]; rfl
          have hc413 : W26.cell? ⟨wr.heap.size, 1, none⟩ = some (.string ⟨#[]⟩) := by rw [cell_of_row _ _ _ _ _ _ HF403.out]; rfl
          have hz414 : W26.frozen? ⟨wr.heap.size, 1, none⟩ = false := frozen_of_row _ _ _ _ _ HF403.out
          go_upto_region 16 with (fail)
          clear hc412 hc413 hz414
          have HF415 := Lib.hid (show (W26.setCell ⟨wr.heap.size, 1, none⟩ (.string v)).heap[w1.heap.size]? = some (.cells #[.string S, .int .i64 (q6 : Int), .int .i64 e6] 130 (0, 0)) by rw [Below.heap_setCell _ _ _ _ (by show w1.heap.size ≠ wr.heap.size; omega)]; exact HF400.out)
          have HF416 := Lib.hid (show (W26.setCell ⟨wr.heap.size, 1, none⟩ (.string v)).heap[w.heap.size + 1]? = some (.cells #[.int .i64 lv, vE, vC] 26 (0, 0)) by rw [Below.heap_setCell _ _ _ _ (by show w.heap.size + 1 ≠ wr.heap.size; omega)]; exact HF401.out)
          have HF417 := Lib.hid (show (W26.setCell ⟨wr.heap.size, 1, none⟩ (.string v)).heap[w.heap.size]? = some (.cells #[.int .i64 0, .slice none 0 0, .slice none 0 0] 26 (0, 0)) by rw [Below.heap_setCell _ _ _ _ (by show w.heap.size ≠ wr.heap.size; omega)]; exact HF402.out)
          have HF418 := Lib.hid (show (W26.setCell ⟨wr.heap.size, 1, none⟩ (.string v)).heap[wr.heap.size]? = some (.cells #[.string s, .string v] 36 (0, 0)) by have h := heap_setCell_at (i := 1) (u := .string v) HF403.out; exact h)
          have HF419 := Lib.hid (show (W26.setCell ⟨wr.heap.size, 1, none⟩ (.string v)).heap[w23.heap.size]? = some (.cells #[.string S, .int .i64 (q6 : Int), .int .i64 e6] 130 (0, 0)) by rw [Below.heap_setCell _ _ _ _ (by show w23.heap.size ≠ wr.heap.size; omega)]; exact HF404.out)
          have HK420 := Lib.hid (HK405.out.setNew (b := wr.heap.size) (by omega) 1 (.string v))
          obtain ⟨wa, hwa⟩ : ∃ wa, wa = (W26.setCell ⟨wr.heap.size, 1, none⟩ (.string v)) := ⟨_, rfl⟩
          rw [← hwa] at HF415 HF416 HF417 HF418 HF419 HK420
          rw [← hwa]
          clear hwa
          have hk421 : w1.heap.size < wa.heap.size := lt_of_block HF415.out
          have hk422 : w.heap.size + 1 < wa.heap.size := lt_of_block HF416.out
          have hk423 : w.heap.size < wa.heap.size := lt_of_block HF417.out
          have hk424 : wr.heap.size < wa.heap.size := lt_of_block HF418.out
          have hk425 : w23.heap.size < wa.heap.size := lt_of_block HF419.out
          have HEa7 := Lib.hid (HE.out.kk HK420.out (by simp; omega))
          have HIa7 := Lib.hid (HI.out.kk HK420.out (by simp; omega))
          have HBa7 := Lib.hid (HK420.out.below HB.out (by simp; omega) (by have := HB.out.size; omega))
          have HRa7 := Lib.hid (Below.refl (w1.heap.size + 1) wa)
          have hc426 : wa.cell? ⟨w.heap.size + 1, 0, none⟩ = some (.int .i64 lv) := by rw [cell_of_row _ _ _ _ _ _ HF416.out]; rfl
          have hc427 : wa.cell? ⟨w.heap.size + 1, 1, none⟩ = some (vE) := by rw [cell_of_row _ _ _ _ _ _ HF416.out]; rfl
          have hc428 : wa.cell? ⟨w.heap.size + 1, 2, none⟩ = some (vC) := by rw [cell_of_row _ _ _ _ _ _ HF416.out]; rfl
          go_wp2_with (at_builtin; refine wpList_appX rfl (.tmp 60) (.tmp 62) 24 3 _ 8 rfl Try.underlying24 info_inA rfl (by omega) (by omega) inC_len inC_one (w1.heap.size + 1) wa (HRa7.out.alloc (by omega) _) (by simp; omega) vC cs rfl (HIa7.out.alloc _) wa.heap.size 1 c #[.int .i64 c] 3 (0, 0) rfl (heap_alloc_new wa _) rfl (by omega) ?_)
          intro v7 w7 HO7 HB7 HZ7 HG7
          clear hc426 hc427 hc428
          have HC7 := Lib.hid ((HB7.out.block (w.heap.size + 1) (by omega)).trans HF416.out)
          have HR7 := Lib.hid ((HB7.out.block (w1.heap.size) (by omega)).trans HF415.out)
          have HRV7 := Lib.hid ((HB7.out.block (w.heap.size) (by omega)).trans HF417.out)
          have HOT7 := Lib.hid ((HEa7.out.alloc _).other (HIa7.out.alloc _) (by decide) HG7.out)
          have HL7 := Lib.hid (HBa7.out.trans (HB7.out.mono (by omega)))
          have hRl7 : w1.heap.size < w7.heap.size := lt_of_block HR7.out
          obtain ⟨A7, n7, c7, rfl⟩ := HO7.out.sl3
          have hx7 : (wa.alloc (.cells #[.int .i64 c] 3 (0, 0))).heap[wr.heap.size]? = some (.cells #[.string s, .string v] 36 (0, 0)) := blk_alloc HF418.out _
          have HX7 := Lib.hid ((HIa7.out.alloc (.cells #[.int .i64 c] 3 (0, 0))).box HG7.out hx7 (Or.inl (by decide)))
          have hXl7 : wr.heap.size < w7.heap.size := lt_of_block HX7.out
          clear hx7
          clear HEa7 HIa7 HBa7 HRa7
          have HK629 := Lib.hid (KK.refl [w1.heap.size, w.heap.size + 1] w7)
          have hc630 : w7.cell? ⟨w.heap.size + 1, 0, none⟩ = some (.int .i64 lv) := by rw [cell_of_row _ _ _ _ _ _ HC7.out]; rfl
          have hc631 : w7.cell? ⟨w.heap.size + 1, 1, none⟩ = some (vE) := by rw [cell_of_row _ _ _ _ _ _ HC7.out]; rfl
          have hc632 : w7.cell? ⟨w.heap.size + 1, 2, none⟩ = some (vC) := by rw [cell_of_row _ _ _ _ _ _ HC7.out]; rfl
          have hz633 : w7.frozen? ⟨w.heap.size + 1, 2, none⟩ = false := frozen_of_row _ _ _ _ _ HC7.out
          go_upto_region 18 with (fail)
          clear hc630 hc631 hc632 hz633
          have HF634 := Lib.hid (show (w7.setCell ⟨w.heap.size + 1, 2, none⟩ (.slice A7 n7 c7)).heap[w1.heap.size]? = some (.cells #[.string S, .int .i64 (q6 : Int), .int .i64 e6] 130 (0, 0)) by rw [Below.heap_setCell _ _ _ _ (by show w1.heap.size ≠ w.heap.size + 1; omega)]; exact HR7.out)
          have HF635 := Lib.hid (show (w7.setCell ⟨w.heap.size + 1, 2, none⟩ (.slice A7 n7 c7)).heap[w.heap.size + 1]? = some (.cells #[.int .i64 lv, vE, .slice A7 n7 c7] 26 (0, 0)) by have h := heap_setCell_at (i := 2) (u := .slice A7 n7 c7) HC7.out; exact h)
          have HF636 := Lib.hid (show (w7.setCell ⟨w.heap.size + 1, 2, none⟩ (.slice A7 n7 c7)).heap[w.heap.size]? = some (.cells #[.int .i64 0, .slice none 0 0, .slice none 0 0] 26 (0, 0)) by rw [Below.heap_setCell _ _ _ _ (by show w.heap.size ≠ w.heap.size + 1; omega)]; exact HRV7.out)
          have HF637 := Lib.hid (show (w7.setCell ⟨w.heap.size + 1, 2, none⟩ (.slice A7 n7 c7)).heap[wr.heap.size]? = some (.cells #[.string s, .string v] 36 (0, 0)) by rw [Below.heap_setCell _ _ _ _ (by show wr.heap.size ≠ w.heap.size + 1; omega)]; exact HX7.out)
          have HK638 := Lib.hid (HK629.out.set (b := w.heap.size + 1) (by simp) 2 (.slice A7 n7 c7))
          have HO8 := Lib.hid (HO7.out.kk HK638.out (by simp; omega))
          have HE8 := Lib.hid (HOT7.out.kk HK638.out (by simp; omega))
          have HL8 := Lib.hid (HK638.out.below HL7.out (by simp; omega) (by have := HL7.out.size; omega))
          obtain ⟨wb, hwb⟩ : ∃ wb, wb = (w7.setCell ⟨w.heap.size + 1, 2, none⟩ (.slice A7 n7 c7)) := ⟨_, rfl⟩
          rw [← hwb] at HF634 HF635 HF636 HF637 HK638 HO8 HE8 HL8
          rw [← hwb]
          clear hwb
          have HLC8 := Lib.hid (show (cs ++ [c]).length ≤ k + 1 by rw [List.length_append]; simp; omega)
          have HLC := HLC8
          have HK839 := Lib.hid (KK.refl [w1.heap.size, w.heap.size + 1] wb)
          have hk840 : w1.heap.size < wb.heap.size := lt_of_block HF634.out
          have hk841 : w.heap.size + 1 < wb.heap.size := lt_of_block HF635.out
          have hk842 : w.heap.size < wb.heap.size := lt_of_block HF636.out
          have hk843 : wr.heap.size < wb.heap.size := lt_of_block HF637.out
          have HEa5 := Lib.hid (HE8.out.kk HK839.out (by simp; omega))
          have HIa5 := Lib.hid (HO8.out.kk HK839.out (by simp; omega))
          have HBa5 := Lib.hid (HK839.out.below HL8.out (by simp; omega) (by have := HL8.out.size; omega))
          have HRa5 := Lib.hid (Below.refl (w1.heap.size + 1) wb)
          have hc844 : wb.cell? ⟨w.heap.size + 1, 0, none⟩ = some (.int .i64 lv) := by rw [cell_of_row _ _ _ _ _ _ HF635.out]; rfl
          have hc845 : wb.cell? ⟨w.heap.size + 1, 1, none⟩ = some (vE) := by rw [cell_of_row _ _ _ _ _ _ HF635.out]; rfl
          have hc846 : wb.cell? ⟨w.heap.size + 1, 2, none⟩ = some (.slice A7 n7 c7) := by rw [cell_of_row _ _ _ _ _ _ HF635.out]; rfl
          have hc847 : wb.cell? ⟨wr.heap.size, 0, none⟩ = some (.string s) := by rw [cell_of_row _ _ _ _ _ _ HF637.out]; rfl
          have hc848 : wb.cell? ⟨wr.heap.size, 1, none⟩ = some (.string v) := by rw [cell_of_row _ _ _ _ _ _ HF637.out]; rfl
          go_wp2_with (at_builtin; refine wpList_appX rfl (.tmp 72) (.tmp 74) 23 36 _ 32 rfl Try.underlying23 info_enA rfl (by omega) (by omega) enC_len enC_one (w1.heap.size + 1) wb (HRa5.out.alloc (by omega) _) (by simp; omega) vE es rfl (HEa5.out.alloc _) wb.heap.size 1 (s, v) #[.string s, .string v] 36 (0, 0) rfl (heap_alloc_new wb _) rfl (by omega) ?_)
          intro v5 w5 HO5 HB5 HZ5 HG5
          clear hc844 hc845 hc846 hc847 hc848
          have HC5 := Lib.hid ((HB5.out.block (w.heap.size + 1) (by omega)).trans HF635.out)
          have HR5 := Lib.hid ((HB5.out.block (w1.heap.size) (by omega)).trans HF634.out)
          have HRV5 := Lib.hid ((HB5.out.block (w.heap.size) (by omega)).trans HF636.out)
          have HOT5 := Lib.hid ((HIa5.out.alloc _).other (HEa5.out.alloc _) (by decide) HG5.out)
          have HL5 := Lib.hid (HBa5.out.trans (HB5.out.mono (by omega)))
          have hRl5 : w1.heap.size < w5.heap.size := lt_of_block HR5.out
          obtain ⟨A5, n5, c5, rfl⟩ := HO5.out.sl3
          clear HEa5 HIa5 HBa5 HRa5
          have HK1049 := Lib.hid (KK.refl [w1.heap.size, w.heap.size + 1] w5)
          have hc1050 : w5.cell? ⟨w.heap.size + 1, 0, none⟩ = some (.int .i64 lv) := by rw [cell_of_row _ _ _ _ _ _ HC5.out]; rfl
          have hc1051 : w5.cell? ⟨w.heap.size + 1, 1, none⟩ = some (vE) := by rw [cell_of_row _ _ _ _ _ _ HC5.out]; rfl
          have hc1052 : w5.cell? ⟨w.heap.size + 1, 2, none⟩ = some (.slice A7 n7 c7) := by rw [cell_of_row _ _ _ _ _ _ HC5.out]; rfl
          have hz1053 : w5.frozen? ⟨w.heap.size + 1, 1, none⟩ = false := frozen_of_row _ _ _ _ _ HC5.out
          go_wp2_with fail
          clear hc1050 hc1051 hc1052 hz1053
          have HF1054 := Lib.hid (show (w5.setCell ⟨w.heap.size + 1, 1, none⟩ (.slice A5 n5 c5)).heap[w1.heap.size]? = some (.cells #[.string S, .int .i64 (q6 : Int), .int .i64 e6] 130 (0, 0)) by rw [Below.heap_setCell _ _ _ _ (by show w1.heap.size ≠ w.heap.size + 1; omega)]; exact HR5.out)
          have HF1055 := Lib.hid (show (w5.setCell ⟨w.heap.size + 1, 1, none⟩ (.slice A5 n5 c5)).heap[w.heap.size + 1]? = some (.cells #[.int .i64 lv, .slice A5 n5 c5, .slice A7 n7 c7] 26 (0, 0)) by have h := heap_setCell_at (i := 1) (u := .slice A5 n5 c5) HC5.out; exact h)
          have HF1056 := Lib.hid (show (w5.setCell ⟨w.heap.size + 1, 1, none⟩ (.slice A5 n5 c5)).heap[w.heap.size]? = some (.cells #[.int .i64 0, .slice none 0 0, .slice none 0 0] 26 (0, 0)) by rw [Below.heap_setCell _ _ _ _ (by show w.heap.size ≠ w.heap.size + 1; omega)]; exact HRV5.out)
          have HK1057 := Lib.hid (HK1049.out.set (b := w.heap.size + 1) (by simp) 1 (.slice A5 n5 c5))
          go_roundw
          case rel => exact ⟨k + 1, q6, e6, es ++ [(s, v)], (cs ++ [c]), _, _, by go_num, by omega, hT3le, HF1054.out, HF1055.out, HF1056.out, HO5.out.kk HK1057.out (by simp; omega), HOT5.out.kk HK1057.out (by simp; omega), by rw [List.length_append, HLE.out]; rfl, HLC.out, HG2.out, HZ2.out, HK1057.out.below HL5.out (by simp; omega) (by have := HL5.out.size; omega)⟩
          case measure => simp [intOf] <;> omega
      · have hd1 : decide ((k : Int) < n) = false := decide_eq_false hlt
        have HGD := Lib.hid (fun lv0 es0 cs0 (hc : IsC S lv0 es0 cs0) => HGG.out.done hlt hc)
        obtain ⟨A1, c1, rfl⟩ := HE.out.sl
        obtain ⟨A2, c2, rfl⟩ := HI.out.sl
        obtain ⟨n1, hn1⟩ : ∃ n, n = es.length := ⟨_, rfl⟩
        obtain ⟨n2, hn2⟩ : ∃ n, n = cs.length := ⟨_, rfl⟩
        have HRS := Lib.hid (show ChR wr A1 A2 n1 n2 es cs by
          obtain ⟨A, c, e, h, _, _⟩ := HE.out.rd enC_len
          cases e
          obtain ⟨A', c', e', h', _, _⟩ := HI.out.rd inC_len
          cases e'
          rw [hn1, hn2]
          exact ⟨h, h'⟩)
        have hnn1 : (n1 : Int) ≤ 9223372036854775807 := by omega
        have hnn2 : (n2 : Int) ≤ 9223372036854775807 := by omega
        have HPU := Lib.hid (fun (W : World) (g : ChR W A1 A2 n1 n2 es cs) => rput19_any lv A1 A2 n1 c1 n2 c2 es cs W g hnn1 hnn2)
        rw [← hn1] at HC HE hvE
        rw [← hn2] at HC HI hvC
        obtain ⟨T, hT⟩ : ∃ T, rputS lv es cs = T := ⟨_, rfl⟩
        rw [hT] at HPU
        clear hlt hlc hle2 HLE hn1 hn2 hkn
        by_cases her : er = 0
        · have HER := Lib.hid her
          have hez : (er != 0) = false := by rw [her]; rfl
          have hez2 : (er == 0) = true := by rw [her]; rfl
          have hSz : S.size ≠ 0 := fun h => HZZ.out h her
          clear her
          by_cases hs : T = S
          · have HIS := Lib.hid (show IsC S lv es cs by
              by_cases hz : chW lv es cs = 0
              · refine ⟨hz, ?_⟩
                rw [← hs, ← hT]
                unfold rputS
                rw [if_pos hz]
              · exfalso
                unfold rputS at hT
                rw [if_neg hz] at hT
                apply hSz
                rw [← hs, ← hT]; rfl)
            have hq' := ba_eq_b hs
            have hqe : (T.toList == S.toList) = true := by rw [hs]; simp
            clear hs hT hSz
            have hc301 : wr.cell? ⟨w1.heap.size, 0, none⟩ = some (.string S) := by rw [cell_of_row _ _ _ _ _ _ HR.out]; rfl
            have hc302 : wr.cell? ⟨w1.heap.size, 1, none⟩ = some (.int .i64 (q : Int)) := by rw [cell_of_row _ _ _ _ _ _ HR.out]; rfl
            have hc303 : wr.cell? ⟨w1.heap.size, 2, none⟩ = some (.int .i64 er) := by rw [cell_of_row _ _ _ _ _ _ HR.out]; rfl
            have hc304 : wr.cell? ⟨w.heap.size + 1, 0, none⟩ = some (.int .i64 lv) := by rw [cell_of_row _ _ _ _ _ _ HC.out]; rfl
            have hc305 : wr.cell? ⟨w.heap.size + 1, 1, none⟩ = some (.slice A1 n1 c1) := by rw [cell_of_row _ _ _ _ _ _ HC.out]; rfl
            have hc306 : wr.cell? ⟨w.heap.size + 1, 2, none⟩ = some (.slice A2 n2 c2) := by rw [cell_of_row _ _ _ _ _ _ HC.out]; rfl
            go_wp2_with fail
            clear hc301 hc302 hc303 hc304 hc305 hc306
            refine (HPU.out wr HRS.out).mono ?_
            rintro e w21 ⟨rfl, hb21⟩
            have HF307 := Lib.hid (blk_below HR.out hb21)
            have HF308 := Lib.hid (blk_below HC.out hb21)
            have HF309 := Lib.hid (blk_below HRV.out hb21)
            have HB310 := Lib.hid (HB.out.trans (hb21.mono HB.out.size))
            have HI3 := Lib.hid (HI.out.kept hb21)
            have HE3 := Lib.hid (HE.out.kept hb21)
            clear hb21 HB HR HC HRV
            have hk311 : w1.heap.size < w21.heap.size := lt_of_block HF307.out
            have hk312 : w.heap.size + 1 < w21.heap.size := lt_of_block HF308.out
            have hk313 : w.heap.size < w21.heap.size := lt_of_block HF309.out
            go_wp2_with (first
              | refine wpList_store_rowY rfl 26 (.tmp 2) (.tmp 87) rfl (w.heap.size) #[.int .i64 lv, .slice A1 n1 c1, .slice A2 n2 c2] rfl rfl 26 _ HF309.out (info_ch _ _ _) rfl (one_ch _ _ _ _ _ _ _) w.heap.size w HB310.out (by omega) ?_
              | refine wpList_load_row rfl 26 (.tmp 4) rfl (w.heap.size + 1) rfl 26 #[.int .i64 lv, .slice A1 n1 c1, .slice A2 n2 c2] (0, 0) _ HF308.out Try.underlying26 rfl (info_ch _ _ _) ?_)
            intro W22 hbk hoth hbel _
            have HF314 := Lib.hid (blk_oth HF307.out hoth.out (by omega))
            have HF315 := Lib.hid (blk_oth HF308.out hoth.out (by omega))
            have HF316 := Lib.hid hbk.out
            have HB317 := Lib.hid hbel.out
            have HE4 := Lib.hid (HE3.out.hoth hoth.out (by omega))
            have HI4 := Lib.hid (HI3.out.hoth hoth.out (by omega))
            clear hbk hoth hbel HB310  HF307 HF308 HF309
            go_wp2_with fail
            refine bodyPost_ret (results_ctY rfl _ _ (w.heap.size) #[.int .i64 lv, .slice A1 n1 c1, .slice A2 n2 c2] rfl (run_loadVar_row _ (w.heap.size) 26 26 _ (0, 0) _ HF316.out Try.underlying26 rfl (info_ch _ _ _))) rfl ?_
            exact Or.inl ⟨_, es, cs, _, _, HIS.out, rfl, HE4.out.mono (by omega), HI4.out.mono (by omega), HB317.out, by have := HB317.out.size; omega⟩
          · have HNO := Lib.hid (show ∀ lv0 es0 cs0, ¬ IsC S lv0 es0 cs0 by
              intro lv0 es0 cs0 hc
              obtain ⟨_, rfl, rfl, rfl⟩ := HGD.out lv0 es0 cs0 hc
              apply hs
              rw [← hT]
              unfold rputS
              rw [if_pos hc.1]
              exact ba_ext hc.2)
            have hq' := ba_neq hs
            have hqe := ba_ne hs
            clear hs hT hSz
            have hc301 : wr.cell? ⟨w1.heap.size, 0, none⟩ = some (.string S) := by rw [cell_of_row _ _ _ _ _ _ HR.out]; rfl
            have hc302 : wr.cell? ⟨w1.heap.size, 1, none⟩ = some (.int .i64 (q : Int)) := by rw [cell_of_row _ _ _ _ _ _ HR.out]; rfl
            have hc303 : wr.cell? ⟨w1.heap.size, 2, none⟩ = some (.int .i64 er) := by rw [cell_of_row _ _ _ _ _ _ HR.out]; rfl
            have hc304 : wr.cell? ⟨w.heap.size + 1, 0, none⟩ = some (.int .i64 lv) := by rw [cell_of_row _ _ _ _ _ _ HC.out]; rfl
            have hc305 : wr.cell? ⟨w.heap.size + 1, 1, none⟩ = some (.slice A1 n1 c1) := by rw [cell_of_row _ _ _ _ _ _ HC.out]; rfl
            have hc306 : wr.cell? ⟨w.heap.size + 1, 2, none⟩ = some (.slice A2 n2 c2) := by rw [cell_of_row _ _ _ _ _ _ HC.out]; rfl
            go_wp2_with fail
            clear hc301 hc302 hc303 hc304 hc305 hc306
            refine (HPU.out wr HRS.out).mono ?_
            rintro e w21 ⟨rfl, hb21⟩
            have HF307 := Lib.hid (blk_below HR.out hb21)
            have HF308 := Lib.hid (blk_below HC.out hb21)
            have HF309 := Lib.hid (blk_below HRV.out hb21)
            have HB310 := Lib.hid (HB.out.trans (hb21.mono HB.out.size))
            have HI3 := Lib.hid (HI.out.kept hb21)
            have HE3 := Lib.hid (HE.out.kept hb21)
            clear hb21 HB HR HC HRV
            have hk311 : w1.heap.size < w21.heap.size := lt_of_block HF307.out
            have hk312 : w.heap.size + 1 < w21.heap.size := lt_of_block HF308.out
            have hk313 : w.heap.size < w21.heap.size := lt_of_block HF309.out
            go_wp2_with (first
              | refine wpList_store_rowY rfl 26 (.tmp 2) (.tmp 86) rfl (w.heap.size) #[.int .i64 0, .slice none 0 0, .slice none 0 0] rfl rfl 26 _ HF309.out (info_ch _ _ _) rfl (one_ch _ _ _ _ _ _ _) w.heap.size w HB310.out (by omega) ?_)
            intro W22 hbk hoth hbel _
            have HF314 := Lib.hid (blk_oth HF307.out hoth.out (by omega))
            have HF315 := Lib.hid (blk_oth HF308.out hoth.out (by omega))
            have HF316 := Lib.hid hbk.out
            have HB317 := Lib.hid hbel.out
            clear hbk hoth hbel HB310  HF307 HF308 HF309
            go_wp2_with fail
            refine bodyPost_ret (results_ctY rfl _ _ (w.heap.size) #[.int .i64 0, .slice none 0 0, .slice none 0 0] rfl (run_loadVar_row _ (w.heap.size) 26 26 _ (0, 0) _ HF316.out Try.underlying26 rfl (info_ch _ _ _))) rfl ?_
            exact Or.inr ⟨HNO.out, rfl, HB317.out, by have := HB317.out.size; omega⟩
        · have hez : (er != 0) = true := by simpa using her
          have hez2 : (er == 0) = false := by simpa using her
          have HNO := Lib.hid (show ∀ lv0 es0 cs0, ¬ IsC S lv0 es0 cs0 by
            intro lv0 es0 cs0 hc
            exact her (HGD.out lv0 es0 cs0 hc).1)
          clear her hT
          have hc301 : wr.cell? ⟨w1.heap.size, 0, none⟩ = some (.string S) := by rw [cell_of_row _ _ _ _ _ _ HR.out]; rfl
          have hc302 : wr.cell? ⟨w1.heap.size, 1, none⟩ = some (.int .i64 (q : Int)) := by rw [cell_of_row _ _ _ _ _ _ HR.out]; rfl
          have hc303 : wr.cell? ⟨w1.heap.size, 2, none⟩ = some (.int .i64 er) := by rw [cell_of_row _ _ _ _ _ _ HR.out]; rfl

          have hk304 : w1.heap.size < wr.heap.size := lt_of_block HR.out
          have hk305 : w.heap.size + 1 < wr.heap.size := lt_of_block HC.out
          have hk306 : w.heap.size < wr.heap.size := lt_of_block HRV.out
          go_wp2_with (first
            | refine wpList_store_rowY rfl 26 (.tmp 2) (.tmp 86) rfl (w.heap.size) #[.int .i64 0, .slice none 0 0, .slice none 0 0] rfl rfl 26 _ HRV.out (info_ch _ _ _) rfl (one_ch _ _ _ _ _ _ _) w.heap.size w HB.out (by omega) ?_)
          intro W21 hbk hoth hbel _
          clear hc301 hc302 hc303
          have HF307 := Lib.hid (blk_oth HR.out hoth.out (by omega))
          have HF308 := Lib.hid (blk_oth HC.out hoth.out (by omega))
          have HF309 := Lib.hid hbk.out
          have HB310 := Lib.hid hbel.out
          clear hbk hoth hbel HB  HR HC HRV
          go_wp2_with fail
          refine bodyPost_ret (results_ctY rfl _ _ (w.heap.size) #[.int .i64 0, .slice none 0 0, .slice none 0 0] rfl (run_loadVar_row _ (w.heap.size) 26 26 _ (0, 0) _ HF309.out Try.underlying26 rfl (info_ch _ _ _))) rfl ?_
          exact Or.inr ⟨HNO.out, rfl, HB310.out, by have := HB310.out.size; omega⟩
  · have hsg : (x1 != 76) = false := by rw [hI]; rfl
    have hsg2 : (x1 == 76) = true := by rw [hI]; rfl
    obtain ⟨n, q3, e3, hN2⟩ : ∃ a0 a1 a2, Rd.num S q1 e1 8 = (a0, a1, a2) := ⟨_, _, _, rfl⟩
    have hN2le : q3 ≤ S.size := by have := Rd.num_le S q1 e1 8 hq1; rw [hN2] at this; exact this
    have HN2 := Lib.hid (fun (W : World) => rnumM S q1 e1 8 _ _ _ W hSm hq1 (by omega) (by omega) hN2)
    have hn8 : 0 ≤ n ∧ n ≤ 8 := by have := num_max S q1 e1 8 (by omega); rw [hN2] at this; exact this
    obtain ⟨hn0, hn8⟩ := hn8
    have HG := Lib.hid (GG.leafB HF.out hI hN2)
    have HZ3 := Lib.hid (num_st hN2 HZ1.out)
    have hqs := hN2le
    clear hN2 hI
    have hc16 : (w1.alloc (.cells #[.string S, .int .i64 (q1 : Int), .int .i64 e1] 130 (0, 0))).cell? ⟨w1.heap.size, 0, none⟩ = some (.string S) := by rw [cell_of_row _ _ _ _ _ _ HF14.out]; rfl
    have hc17 : (w1.alloc (.cells #[.string S, .int .i64 (q1 : Int), .int .i64 e1] 130 (0, 0))).cell? ⟨w1.heap.size, 1, none⟩ = some (.int .i64 (q1 : Int)) := by rw [cell_of_row _ _ _ _ _ _ HF14.out]; rfl
    have hc18 : (w1.alloc (.cells #[.string S, .int .i64 (q1 : Int), .int .i64 e1] 130 (0, 0))).cell? ⟨w1.heap.size, 2, none⟩ = some (.int .i64 e1) := by rw [cell_of_row _ _ _ _ _ _ HF14.out]; rfl
    go_wp2_with fail
    clear hc16 hc17 hc18
    refine (HN2.out (w1.alloc (.cells #[.string S, .int .i64 (q1 : Int), .int .i64 e1] 130 (0, 0)))).mono ?_
    rintro e w2 ⟨rfl, hb2⟩
    have HF19 := Lib.hid (blk_below HF12.out hb2)
    have HF20 := Lib.hid (blk_below HF13.out hb2)
    have HF21 := Lib.hid (blk_below HF14.out hb2)
    have HB22 := Lib.hid (HB15.out.trans (hb2.mono HB15.out.size))
    clear hb2 HB15 HF12 HF7 HF13 HF8 HF14
    have hk23 : w.heap.size < w2.heap.size := lt_of_block HF19.out
    have hk24 : w.heap.size + 1 < w2.heap.size := lt_of_block HF20.out
    have hk25 : w1.heap.size < w2.heap.size := lt_of_block HF21.out
    go_wp2_with (first
      | refine wpList_store_rowY rfl 130 (.tmp 5) (.tmp 30) rfl (w1.heap.size) #[.string S, .int .i64 (q3 : Int), .int .i64 e3] rfl rfl 130 _ HF21.out (info_scM _ _ _) rfl (one_scM _ _ _) w.heap.size w HB22.out (by omega) ?_)
    intro W3 hbk hoth hbel _
    have HF26 := Lib.hid (blk_oth HF19.out hoth.out (by omega))
    have HF27 := Lib.hid (blk_oth HF20.out hoth.out (by omega))
    have HF28 := Lib.hid hbk.out
    have HB29 := Lib.hid hbel.out
    clear hbk hoth hbel HB22  HF19 HF20 HF21
    have hk30 : w.heap.size < W3.heap.size := lt_of_block HF26.out
    have hk31 : w.heap.size + 1 < W3.heap.size := lt_of_block HF27.out
    have hk32 : w1.heap.size < W3.heap.size := lt_of_block HF28.out
    go_wp2_with fail
    go_loopw [8] (fun i wr => ∃ (k q : Nat) (er : Int) (es : List En) (cs : List Int) (vE vC : Value), i = .int .i64 (k : Int) ∧ (k : Int) ≤ n ∧ q ≤ S.size ∧ wr.heap[w1.heap.size]? = some (.cells #[.string S, .int .i64 (q : Int), .int .i64 er] 130 (0, 0)) ∧ wr.heap[w.heap.size + 1]? = some (.cells #[.int .i64 0, vE, vC] 26 (0, 0)) ∧ wr.heap[w.heap.size]? = some (.cells #[.int .i64 0, .slice none 0 0, .slice none 0 0] 26 (0, 0)) ∧ OwX enC 2 36 wr (w1.heap.size + 1) vE es ∧ OwX inC 1 3 wr (w1.heap.size + 1) vC cs ∧ es.length = k ∧ cs.length ≤ k ∧ GG S q er 0 n es cs k ∧ (S.size = 0 → er ≠ 0) ∧ Below w.heap.size w wr) (fun i _ => 8 - (intOf i).toNat)
    case atStart => exact ⟨0, q3, e3, [], [], _, _, rfl, by omega, hqs, HF28.out, HF27.out, HF26.out, OwX.nil _, OwX.nil _, rfl, Nat.le_refl _, HG.out, HZ3.out, HB29.out⟩
    case round =>
      obtain ⟨k, q, er, es, cs, vE, vC, rfl, hkn, hq, hbr, hbc, hbv, hoe, hoc, hle, hlc, hgg, hzz, hb⟩ := hrel
      have HR := Lib.hid hbr
      have HC := Lib.hid hbc
      have HRV := Lib.hid hbv
      have HE := Lib.hid hoe
      have HI := Lib.hid hoc
      have HGG := Lib.hid hgg
      have HB := Lib.hid hb
      have HLE := Lib.hid hle
      have HZZ := Lib.hid hzz
      have hle2 : es.length ≤ k := by omega
      have hRl := lt_of_block hbr
      have hCR : w.heap.size + 1 < w1.heap.size := hCw1
      have hvE := hoe.one
      have hvC := hoc.one
      clear hbr hbc hbv hoe hoc hgg hb hle hzz
      by_cases hlt : (k : Int) < n
      · have hd1 : decide ((k : Int) < n) = true := decide_eq_true hlt
        obtain ⟨s, q4, e4, hT1⟩ : ∃ a0 a1 a2, Rd.text S q er 64 = (a0, a1, a2) := ⟨_, _, _, rfl⟩
        have hT1le : q4 ≤ S.size := by have := Rd.text_le S q er 64 hq; rw [hT1] at this; exact this
        have HT1 := Lib.hid (fun (W : World) => rtextM S q er 64 _ _ _ W hSm hq (by omega) (by omega) hT1)
        have HR1 := Lib.hid hT1
        have HLC := Lib.hid (show cs.length ≤ k + 1 by omega)
        have HLV := Lib.hid (show (0 : Int) = 0 from rfl)
        obtain ⟨v, q5, e5, hT2⟩ : ∃ a0 a1 a2, Rd.text S q4 e4 2048 = (a0, a1, a2) := ⟨_, _, _, rfl⟩
        have hT2le : q5 ≤ S.size := by have := Rd.text_le S q4 e4 2048 hT1le; rw [hT2] at this; exact this
        have HT2 := Lib.hid (fun (W : World) => rtextM S q4 e4 2048 _ _ _ W hSm hT1le (by omega) (by omega) hT2)
        have HG2 := Lib.hid (HGG.out.stepL HLV.out hlt hq HR1.out hT2)
        have HZ2 := Lib.hid (text_st hT2 (text_st hT1 HZZ.out))
        clear hT1 hT2
        have HK301 := Lib.hid (KK.refl [w1.heap.size, w.heap.size + 1] wr)
        have hk302 := HK301.out.size
        have hk303 : w1.heap.size < wr.heap.size := lt_of_block HR.out
        have hk304 : w.heap.size + 1 < wr.heap.size := lt_of_block HC.out
        have hk305 : w.heap.size < wr.heap.size := lt_of_block HRV.out
        have HF306 := Lib.hid (blk_alloc HR.out (.cells #[.string ⟨#[]⟩, .string ⟨#[]⟩] 36 (0, 0)))
        have HF307 := Lib.hid (blk_alloc HC.out (.cells #[.string ⟨#[]⟩, .string ⟨#[]⟩] 36 (0, 0)))
        have HF308 := Lib.hid (blk_alloc HRV.out (.cells #[.string ⟨#[]⟩, .string ⟨#[]⟩] 36 (0, 0)))
        have HF309 := Lib.hid (blk_new wr (.cells #[.string ⟨#[]⟩, .string ⟨#[]⟩] 36 (0, 0)))
        have HK310 := Lib.hid (HK301.out.alloc (.cells #[.string ⟨#[]⟩, .string ⟨#[]⟩] 36 (0, 0)))
        clear HK301
        have hc311 : (wr.alloc (.cells #[.string ⟨#[]⟩, .string ⟨#[]⟩] 36 (0, 0))).cell? ⟨w1.heap.size, 0, none⟩ = some (.string S) := by rw [cell_of_row _ _ _ _ _ _ HF306.out]; rfl
        have hc312 : wr.cell? ⟨w1.heap.size, 0, none⟩ = some (.string S) := by rw [cell_of_row _ _ _ _ _ _ HR.out]; rfl
        have hc313 : (wr.alloc (.cells #[.string ⟨#[]⟩, .string ⟨#[]⟩] 36 (0, 0))).cell? ⟨w1.heap.size, 1, none⟩ = some (.int .i64 (q : Int)) := by rw [cell_of_row _ _ _ _ _ _ HF306.out]; rfl
        have hc314 : wr.cell? ⟨w1.heap.size, 1, none⟩ = some (.int .i64 (q : Int)) := by rw [cell_of_row _ _ _ _ _ _ HR.out]; rfl
        have hc315 : (wr.alloc (.cells #[.string ⟨#[]⟩, .string ⟨#[]⟩] 36 (0, 0))).cell? ⟨w1.heap.size, 2, none⟩ = some (.int .i64 er) := by rw [cell_of_row _ _ _ _ _ _ HF306.out]; rfl
        have hc316 : wr.cell? ⟨w1.heap.size, 2, none⟩ = some (.int .i64 er) := by rw [cell_of_row _ _ _ _ _ _ HR.out]; rfl
        have hl317 : w1.heap.size < wr.heap.size := lt_of_block HR.out
        have hl318 : ¬ w1.heap.size = wr.heap.size := by omega
        go_wp2_with fail
        clear hc311 hc312 hc313 hc314 hc315 hc316 hl317 hl318
        refine (HT1.out (wr.alloc (.cells #[.string ⟨#[]⟩, .string ⟨#[]⟩] 36 (0, 0)))).mono ?_
        rintro e w21 ⟨rfl, hb21⟩
        have HF319 := Lib.hid (blk_below HF306.out hb21)
        have HF320 := Lib.hid (blk_below HF307.out hb21)
        have HF321 := Lib.hid (blk_below HF308.out hb21)
        have HF322 := Lib.hid (blk_below HF309.out hb21)
        have HK323 := Lib.hid (HK310.out.trans (KK.of_below hb21))
        clear hb21 HK310 HF306 HR HF307 HC HF308 HRV HF309
        have hk324 := HK323.out.size
        have hk325 : w1.heap.size < w21.heap.size := lt_of_block HF319.out
        have hk326 : w.heap.size + 1 < w21.heap.size := lt_of_block HF320.out
        have hk327 : w.heap.size < w21.heap.size := lt_of_block HF321.out
        have hk328 : wr.heap.size < w21.heap.size := lt_of_block HF322.out
        go_wp2_with (first
          | refine wpList_store_rowY rfl 130 (.tmp 5) (.tmp 40) rfl (w1.heap.size) #[.string S, .int .i64 (q4 : Int), .int .i64 e4] rfl rfl 130 _ HF319.out (info_scM _ _ _) rfl (one_scM _ _ _) (w1.heap.size) w21 (Below.refl _ _) (Nat.le_refl _) ?_)
        intro W22 hbk hoth hbel _
        have HF329 := Lib.hid hbk.out
        have HF330 := Lib.hid (blk_oth HF320.out hoth.out (by omega))
        have HF331 := Lib.hid (blk_oth HF321.out hoth.out (by omega))
        have HF332 := Lib.hid (blk_oth HF322.out hoth.out (by omega))
        have HK333 := Lib.hid (HK323.out.row (b := w1.heap.size) (Or.inl (by simp)) hbel.out hoth.out)
        clear hbk hoth hbel HK323 HF319 HF320 HF321 HF322
        have hk334 := HK333.out.size
        have hk335 : w1.heap.size < W22.heap.size := lt_of_block HF329.out
        have hk336 : w.heap.size + 1 < W22.heap.size := lt_of_block HF330.out
        have hk337 : w.heap.size < W22.heap.size := lt_of_block HF331.out
        have hk338 : wr.heap.size < W22.heap.size := lt_of_block HF332.out
        have hc339 : W22.cell? ⟨wr.heap.size, 0, none⟩ = some (.string ⟨#[]⟩) := by rw [cell_of_row _ _ _ _ _ _ HF332.out]; rfl
        have hc340 : W22.cell? ⟨wr.heap.size, 1, none⟩ = some (.string ⟨#[]⟩) := by rw [cell_of_row _ _ _ _ _ _ HF332.out]; rfl
        have hz341 : W22.frozen? ⟨wr.heap.size, 0, none⟩ = false := frozen_of_row _ _ _ _ _ HF332.out
        go_upto_region 11 with (fail)
        clear hc339 hc340 hz341
        have HF342 := Lib.hid (show (W22.setCell ⟨wr.heap.size, 0, none⟩ (.string s)).heap[w1.heap.size]? = some (.cells #[.string S, .int .i64 (q4 : Int), .int .i64 e4] 130 (0, 0)) by rw [Below.heap_setCell _ _ _ _ (by show w1.heap.size ≠ wr.heap.size; omega)]; exact HF329.out)
        have HF343 := Lib.hid (show (W22.setCell ⟨wr.heap.size, 0, none⟩ (.string s)).heap[w.heap.size + 1]? = some (.cells #[.int .i64 0, vE, vC] 26 (0, 0)) by rw [Below.heap_setCell _ _ _ _ (by show w.heap.size + 1 ≠ wr.heap.size; omega)]; exact HF330.out)
        have HF344 := Lib.hid (show (W22.setCell ⟨wr.heap.size, 0, none⟩ (.string s)).heap[w.heap.size]? = some (.cells #[.int .i64 0, .slice none 0 0, .slice none 0 0] 26 (0, 0)) by rw [Below.heap_setCell _ _ _ _ (by show w.heap.size ≠ wr.heap.size; omega)]; exact HF331.out)
        have HF345 := Lib.hid (show (W22.setCell ⟨wr.heap.size, 0, none⟩ (.string s)).heap[wr.heap.size]? = some (.cells #[.string s, .string ⟨#[]⟩] 36 (0, 0)) by have h := heap_setCell_at (i := 0) (u := .string s) HF332.out; exact h)
        have HK346 := Lib.hid (HK333.out.setNew (b := wr.heap.size) (by omega) 0 (.string s))
        obtain ⟨wk, hwk⟩ : ∃ wk, wk = (W22.setCell ⟨wr.heap.size, 0, none⟩ (.string s)) := ⟨_, rfl⟩
        rw [← hwk] at HF342 HF343 HF344 HF345 HK346
        rw [← hwk]
        clear hwk
        have hk347 : w1.heap.size < wk.heap.size := lt_of_block HF342.out
        have hk348 : w.heap.size + 1 < wk.heap.size := lt_of_block HF343.out
        have hk349 : w.heap.size < wk.heap.size := lt_of_block HF344.out
        have hk350 : wr.heap.size < wk.heap.size := lt_of_block HF345.out
        have hc351 : wk.cell? ⟨w.heap.size + 1, 0, none⟩ = some (.int .i64 0) := by rw [cell_of_row _ _ _ _ _ _ HF343.out]; rfl
        have hc352 : wk.cell? ⟨w.heap.size + 1, 1, none⟩ = some (vE) := by rw [cell_of_row _ _ _ _ _ _ HF343.out]; rfl
        have hc353 : wk.cell? ⟨w.heap.size + 1, 2, none⟩ = some (vC) := by rw [cell_of_row _ _ _ _ _ _ HF343.out]; rfl
        have hc354 : wk.cell? ⟨w1.heap.size, 0, none⟩ = some (.string S) := by rw [cell_of_row _ _ _ _ _ _ HF342.out]; rfl
        have hc355 : wk.cell? ⟨w1.heap.size, 1, none⟩ = some (.int .i64 (q4 : Int)) := by rw [cell_of_row _ _ _ _ _ _ HF342.out]; rfl
        have hc356 : wk.cell? ⟨w1.heap.size, 2, none⟩ = some (.int .i64 e4) := by rw [cell_of_row _ _ _ _ _ _ HF342.out]; rfl
        go_wp2_with fail
        clear hc351 hc352 hc353 hc354 hc355 hc356
        refine (HT2.out wk).mono ?_
        rintro e w23 ⟨rfl, hb23⟩
        have HF357 := Lib.hid (blk_below HF342.out hb23)
        have HF358 := Lib.hid (blk_below HF343.out hb23)
        have HF359 := Lib.hid (blk_below HF344.out hb23)
        have HF360 := Lib.hid (blk_below HF345.out hb23)
        have HK361 := Lib.hid (HK346.out.trans (KK.of_below hb23))
        clear hb23 HK346 HF342 HF343 HF344 HF345
        have hk362 := HK361.out.size
        have hk363 : w1.heap.size < w23.heap.size := lt_of_block HF357.out
        have hk364 : w.heap.size + 1 < w23.heap.size := lt_of_block HF358.out
        have hk365 : w.heap.size < w23.heap.size := lt_of_block HF359.out
        have hk366 : wr.heap.size < w23.heap.size := lt_of_block HF360.out
        go_wp2_with (first
          | refine wpList_store_rowY rfl 130 (.tmp 5) (.tmp 68) rfl (w1.heap.size) #[.string S, .int .i64 (q5 : Int), .int .i64 e5] rfl rfl 130 _ HF357.out (info_scM _ _ _) rfl (one_scM _ _ _) (w1.heap.size) w23 (Below.refl _ _) (Nat.le_refl _) ?_)
        intro W24 hbk hoth hbel _
        have HF367 := Lib.hid hbk.out
        have HF368 := Lib.hid (blk_oth HF358.out hoth.out (by omega))
        have HF369 := Lib.hid (blk_oth HF359.out hoth.out (by omega))
        have HF370 := Lib.hid (blk_oth HF360.out hoth.out (by omega))
        have HK371 := Lib.hid (HK361.out.row (b := w1.heap.size) (Or.inl (by simp)) hbel.out hoth.out)
        clear hbk hoth hbel HK361 HF357 HF358 HF359 HF360
        have hk372 := HK371.out.size
        have hk373 : w1.heap.size < W24.heap.size := lt_of_block HF367.out
        have hk374 : w.heap.size + 1 < W24.heap.size := lt_of_block HF368.out
        have hk375 : w.heap.size < W24.heap.size := lt_of_block HF369.out
        have hk376 : wr.heap.size < W24.heap.size := lt_of_block HF370.out
        have hc377 : W24.cell? ⟨wr.heap.size, 0, none⟩ = some (.string s) := by rw [cell_of_row _ _ _ _ _ _ HF370.out]; rfl
        have hc378 : W24.cell? ⟨wr.heap.size, 1, none⟩ = some (.string ⟨#[]⟩) := by rw [cell_of_row _ _ _ _ _ _ HF370.out]; rfl
        have hz379 : W24.frozen? ⟨wr.heap.size, 1, none⟩ = false := frozen_of_row _ _ _ _ _ HF370.out
        go_upto_region 18 with (fail)
        clear hc377 hc378 hz379
        have HF380 := Lib.hid (show (W24.setCell ⟨wr.heap.size, 1, none⟩ (.string v)).heap[w1.heap.size]? = some (.cells #[.string S, .int .i64 (q5 : Int), .int .i64 e5] 130 (0, 0)) by rw [Below.heap_setCell _ _ _ _ (by show w1.heap.size ≠ wr.heap.size; omega)]; exact HF367.out)
        have HF381 := Lib.hid (show (W24.setCell ⟨wr.heap.size, 1, none⟩ (.string v)).heap[w.heap.size + 1]? = some (.cells #[.int .i64 0, vE, vC] 26 (0, 0)) by rw [Below.heap_setCell _ _ _ _ (by show w.heap.size + 1 ≠ wr.heap.size; omega)]; exact HF368.out)
        have HF382 := Lib.hid (show (W24.setCell ⟨wr.heap.size, 1, none⟩ (.string v)).heap[w.heap.size]? = some (.cells #[.int .i64 0, .slice none 0 0, .slice none 0 0] 26 (0, 0)) by rw [Below.heap_setCell _ _ _ _ (by show w.heap.size ≠ wr.heap.size; omega)]; exact HF369.out)
        have HF383 := Lib.hid (show (W24.setCell ⟨wr.heap.size, 1, none⟩ (.string v)).heap[wr.heap.size]? = some (.cells #[.string s, .string v] 36 (0, 0)) by have h := heap_setCell_at (i := 1) (u := .string v) HF370.out; exact h)
        have HK384 := Lib.hid (HK371.out.setNew (b := wr.heap.size) (by omega) 1 (.string v))
        obtain ⟨wa, hwa⟩ : ∃ wa, wa = (W24.setCell ⟨wr.heap.size, 1, none⟩ (.string v)) := ⟨_, rfl⟩
        rw [← hwa] at HF380 HF381 HF382 HF383 HK384
        rw [← hwa]
        clear hwa
        have hk385 : w1.heap.size < wa.heap.size := lt_of_block HF380.out
        have hk386 : w.heap.size + 1 < wa.heap.size := lt_of_block HF381.out
        have hk387 : w.heap.size < wa.heap.size := lt_of_block HF382.out
        have hk388 : wr.heap.size < wa.heap.size := lt_of_block HF383.out
        have HEa7 := Lib.hid (HE.out.kk HK384.out (by simp; omega))
        have HIa7 := Lib.hid (HI.out.kk HK384.out (by simp; omega))
        have HBa7 := Lib.hid (HK384.out.below HB.out (by simp; omega) (by have := HB.out.size; omega))
        have HRa7 := Lib.hid (Below.refl (w1.heap.size + 1) wa)
        have hc389 : wa.cell? ⟨w.heap.size + 1, 0, none⟩ = some (.int .i64 0) := by rw [cell_of_row _ _ _ _ _ _ HF381.out]; rfl
        have hc390 : wa.cell? ⟨w.heap.size + 1, 1, none⟩ = some (vE) := by rw [cell_of_row _ _ _ _ _ _ HF381.out]; rfl
        have hc391 : wa.cell? ⟨w.heap.size + 1, 2, none⟩ = some (vC) := by rw [cell_of_row _ _ _ _ _ _ HF381.out]; rfl
        have hc392 : wa.cell? ⟨wr.heap.size, 0, none⟩ = some (.string s) := by rw [cell_of_row _ _ _ _ _ _ HF383.out]; rfl
        have hc393 : wa.cell? ⟨wr.heap.size, 1, none⟩ = some (.string v) := by rw [cell_of_row _ _ _ _ _ _ HF383.out]; rfl
        go_wp2_with (at_builtin; refine wpList_appX rfl (.tmp 72) (.tmp 74) 23 36 _ 32 rfl Try.underlying23 info_enA rfl (by omega) (by omega) enC_len enC_one (w1.heap.size + 1) wa (HRa7.out.alloc (by omega) _) (by simp; omega) vE es rfl (HEa7.out.alloc _) wa.heap.size 1 (s, v) #[.string s, .string v] 36 (0, 0) rfl (heap_alloc_new wa _) rfl (by omega) ?_)
        intro v7 w7 HO7 HB7 HZ7 HG7
        clear hc389 hc390 hc391 hc392 hc393
        have HC7 := Lib.hid ((HB7.out.block (w.heap.size + 1) (by omega)).trans HF381.out)
        have HR7 := Lib.hid ((HB7.out.block (w1.heap.size) (by omega)).trans HF380.out)
        have HRV7 := Lib.hid ((HB7.out.block (w.heap.size) (by omega)).trans HF382.out)
        have HOT7 := Lib.hid ((HIa7.out.alloc _).other (HEa7.out.alloc _) (by decide) HG7.out)
        have HL7 := Lib.hid (HBa7.out.trans (HB7.out.mono (by omega)))
        have hRl7 : w1.heap.size < w7.heap.size := lt_of_block HR7.out
        obtain ⟨A7, n7, c7, rfl⟩ := HO7.out.sl3
        clear HEa7 HIa7 HBa7 HRa7
        have HK594 := Lib.hid (KK.refl [w1.heap.size, w.heap.size + 1] w7)
        have hc595 : w7.cell? ⟨w.heap.size + 1, 0, none⟩ = some (.int .i64 0) := by rw [cell_of_row _ _ _ _ _ _ HC7.out]; rfl
        have hc596 : w7.cell? ⟨w.heap.size + 1, 1, none⟩ = some (vE) := by rw [cell_of_row _ _ _ _ _ _ HC7.out]; rfl
        have hc597 : w7.cell? ⟨w.heap.size + 1, 2, none⟩ = some (vC) := by rw [cell_of_row _ _ _ _ _ _ HC7.out]; rfl
        have hz598 : w7.frozen? ⟨w.heap.size + 1, 1, none⟩ = false := frozen_of_row _ _ _ _ _ HC7.out
        go_wp2_with fail
        clear hc595 hc596 hc597 hz598
        have HF599 := Lib.hid (show (w7.setCell ⟨w.heap.size + 1, 1, none⟩ (.slice A7 n7 c7)).heap[w1.heap.size]? = some (.cells #[.string S, .int .i64 (q5 : Int), .int .i64 e5] 130 (0, 0)) by rw [Below.heap_setCell _ _ _ _ (by show w1.heap.size ≠ w.heap.size + 1; omega)]; exact HR7.out)
        have HF600 := Lib.hid (show (w7.setCell ⟨w.heap.size + 1, 1, none⟩ (.slice A7 n7 c7)).heap[w.heap.size + 1]? = some (.cells #[.int .i64 0, .slice A7 n7 c7, vC] 26 (0, 0)) by have h := heap_setCell_at (i := 1) (u := .slice A7 n7 c7) HC7.out; exact h)
        have HF601 := Lib.hid (show (w7.setCell ⟨w.heap.size + 1, 1, none⟩ (.slice A7 n7 c7)).heap[w.heap.size]? = some (.cells #[.int .i64 0, .slice none 0 0, .slice none 0 0] 26 (0, 0)) by rw [Below.heap_setCell _ _ _ _ (by show w.heap.size ≠ w.heap.size + 1; omega)]; exact HRV7.out)
        have HK602 := Lib.hid (HK594.out.set (b := w.heap.size + 1) (by simp) 1 (.slice A7 n7 c7))
        go_roundw
        case rel => exact ⟨k + 1, q5, e5, es ++ [(s, v)], cs, _, _, by go_num, by omega, hT2le, HF599.out, HF600.out, HF601.out, HO7.out.kk HK602.out (by simp; omega), HOT7.out.kk HK602.out (by simp; omega), by rw [List.length_append, HLE.out]; rfl, HLC.out, HG2.out, HZ2.out, HK602.out.below HL7.out (by simp; omega) (by have := HL7.out.size; omega)⟩
        case measure => simp [intOf] <;> omega
      · have hd1 : decide ((k : Int) < n) = false := decide_eq_false hlt
        have HGD := Lib.hid (fun lv0 es0 cs0 (hc : IsC S lv0 es0 cs0) => HGG.out.done hlt hc)
        obtain ⟨A1, c1, rfl⟩ := HE.out.sl
        obtain ⟨A2, c2, rfl⟩ := HI.out.sl
        obtain ⟨n1, hn1⟩ : ∃ n, n = es.length := ⟨_, rfl⟩
        obtain ⟨n2, hn2⟩ : ∃ n, n = cs.length := ⟨_, rfl⟩
        have HRS := Lib.hid (show ChR wr A1 A2 n1 n2 es cs by
          obtain ⟨A, c, e, h, _, _⟩ := HE.out.rd enC_len
          cases e
          obtain ⟨A', c', e', h', _, _⟩ := HI.out.rd inC_len
          cases e'
          rw [hn1, hn2]
          exact ⟨h, h'⟩)
        have hnn1 : (n1 : Int) ≤ 9223372036854775807 := by omega
        have hnn2 : (n2 : Int) ≤ 9223372036854775807 := by omega
        have HPU := Lib.hid (fun (W : World) (g : ChR W A1 A2 n1 n2 es cs) => rput19_any 0 A1 A2 n1 c1 n2 c2 es cs W g hnn1 hnn2)
        rw [← hn1] at HC HE hvE
        rw [← hn2] at HC HI hvC
        obtain ⟨T, hT⟩ : ∃ T, rputS 0 es cs = T := ⟨_, rfl⟩
        rw [hT] at HPU
        clear hlt hlc hle2 HLE hn1 hn2 hkn
        by_cases her : er = 0
        · have HER := Lib.hid her
          have hez : (er != 0) = false := by rw [her]; rfl
          have hez2 : (er == 0) = true := by rw [her]; rfl
          have hSz : S.size ≠ 0 := fun h => HZZ.out h her
          clear her
          by_cases hs : T = S
          · have HIS := Lib.hid (show IsC S 0 es cs by
              by_cases hz : chW 0 es cs = 0
              · refine ⟨hz, ?_⟩
                rw [← hs, ← hT]
                unfold rputS
                rw [if_pos hz]
              · exfalso
                unfold rputS at hT
                rw [if_neg hz] at hT
                apply hSz
                rw [← hs, ← hT]; rfl)
            have hq' := ba_eq_b hs
            have hqe : (T.toList == S.toList) = true := by rw [hs]; simp
            clear hs hT hSz
            have hc301 : wr.cell? ⟨w1.heap.size, 0, none⟩ = some (.string S) := by rw [cell_of_row _ _ _ _ _ _ HR.out]; rfl
            have hc302 : wr.cell? ⟨w1.heap.size, 1, none⟩ = some (.int .i64 (q : Int)) := by rw [cell_of_row _ _ _ _ _ _ HR.out]; rfl
            have hc303 : wr.cell? ⟨w1.heap.size, 2, none⟩ = some (.int .i64 er) := by rw [cell_of_row _ _ _ _ _ _ HR.out]; rfl
            have hc304 : wr.cell? ⟨w.heap.size + 1, 0, none⟩ = some (.int .i64 0) := by rw [cell_of_row _ _ _ _ _ _ HC.out]; rfl
            have hc305 : wr.cell? ⟨w.heap.size + 1, 1, none⟩ = some (.slice A1 n1 c1) := by rw [cell_of_row _ _ _ _ _ _ HC.out]; rfl
            have hc306 : wr.cell? ⟨w.heap.size + 1, 2, none⟩ = some (.slice A2 n2 c2) := by rw [cell_of_row _ _ _ _ _ _ HC.out]; rfl
            go_wp2_with fail
            clear hc301 hc302 hc303 hc304 hc305 hc306
            refine (HPU.out wr HRS.out).mono ?_
            rintro e w21 ⟨rfl, hb21⟩
            have HF307 := Lib.hid (blk_below HR.out hb21)
            have HF308 := Lib.hid (blk_below HC.out hb21)
            have HF309 := Lib.hid (blk_below HRV.out hb21)
            have HB310 := Lib.hid (HB.out.trans (hb21.mono HB.out.size))
            have HI3 := Lib.hid (HI.out.kept hb21)
            have HE3 := Lib.hid (HE.out.kept hb21)
            clear hb21 HB HR HC HRV
            have hk311 : w1.heap.size < w21.heap.size := lt_of_block HF307.out
            have hk312 : w.heap.size + 1 < w21.heap.size := lt_of_block HF308.out
            have hk313 : w.heap.size < w21.heap.size := lt_of_block HF309.out
            go_wp2_with (first
              | refine wpList_store_rowY rfl 26 (.tmp 2) (.tmp 87) rfl (w.heap.size) #[.int .i64 0, .slice A1 n1 c1, .slice A2 n2 c2] rfl rfl 26 _ HF309.out (info_ch _ _ _) rfl (one_ch _ _ _ _ _ _ _) w.heap.size w HB310.out (by omega) ?_
              | refine wpList_load_row rfl 26 (.tmp 4) rfl (w.heap.size + 1) rfl 26 #[.int .i64 0, .slice A1 n1 c1, .slice A2 n2 c2] (0, 0) _ HF308.out Try.underlying26 rfl (info_ch _ _ _) ?_)
            intro W22 hbk hoth hbel _
            have HF314 := Lib.hid (blk_oth HF307.out hoth.out (by omega))
            have HF315 := Lib.hid (blk_oth HF308.out hoth.out (by omega))
            have HF316 := Lib.hid hbk.out
            have HB317 := Lib.hid hbel.out
            have HE4 := Lib.hid (HE3.out.hoth hoth.out (by omega))
            have HI4 := Lib.hid (HI3.out.hoth hoth.out (by omega))
            clear hbk hoth hbel HB310  HF307 HF308 HF309
            go_wp2_with fail
            refine bodyPost_ret (results_ctY rfl _ _ (w.heap.size) #[.int .i64 0, .slice A1 n1 c1, .slice A2 n2 c2] rfl (run_loadVar_row _ (w.heap.size) 26 26 _ (0, 0) _ HF316.out Try.underlying26 rfl (info_ch _ _ _))) rfl ?_
            exact Or.inl ⟨_, es, cs, _, _, HIS.out, rfl, HE4.out.mono (by omega), HI4.out.mono (by omega), HB317.out, by have := HB317.out.size; omega⟩
          · have HNO := Lib.hid (show ∀ lv0 es0 cs0, ¬ IsC S lv0 es0 cs0 by
              intro lv0 es0 cs0 hc
              obtain ⟨_, rfl, rfl, rfl⟩ := HGD.out lv0 es0 cs0 hc
              apply hs
              rw [← hT]
              unfold rputS
              rw [if_pos hc.1]
              exact ba_ext hc.2)
            have hq' := ba_neq hs
            have hqe := ba_ne hs
            clear hs hT hSz
            have hc301 : wr.cell? ⟨w1.heap.size, 0, none⟩ = some (.string S) := by rw [cell_of_row _ _ _ _ _ _ HR.out]; rfl
            have hc302 : wr.cell? ⟨w1.heap.size, 1, none⟩ = some (.int .i64 (q : Int)) := by rw [cell_of_row _ _ _ _ _ _ HR.out]; rfl
            have hc303 : wr.cell? ⟨w1.heap.size, 2, none⟩ = some (.int .i64 er) := by rw [cell_of_row _ _ _ _ _ _ HR.out]; rfl
            have hc304 : wr.cell? ⟨w.heap.size + 1, 0, none⟩ = some (.int .i64 0) := by rw [cell_of_row _ _ _ _ _ _ HC.out]; rfl
            have hc305 : wr.cell? ⟨w.heap.size + 1, 1, none⟩ = some (.slice A1 n1 c1) := by rw [cell_of_row _ _ _ _ _ _ HC.out]; rfl
            have hc306 : wr.cell? ⟨w.heap.size + 1, 2, none⟩ = some (.slice A2 n2 c2) := by rw [cell_of_row _ _ _ _ _ _ HC.out]; rfl
            go_wp2_with fail
            clear hc301 hc302 hc303 hc304 hc305 hc306
            refine (HPU.out wr HRS.out).mono ?_
            rintro e w21 ⟨rfl, hb21⟩
            have HF307 := Lib.hid (blk_below HR.out hb21)
            have HF308 := Lib.hid (blk_below HC.out hb21)
            have HF309 := Lib.hid (blk_below HRV.out hb21)
            have HB310 := Lib.hid (HB.out.trans (hb21.mono HB.out.size))
            have HI3 := Lib.hid (HI.out.kept hb21)
            have HE3 := Lib.hid (HE.out.kept hb21)
            clear hb21 HB HR HC HRV
            have hk311 : w1.heap.size < w21.heap.size := lt_of_block HF307.out
            have hk312 : w.heap.size + 1 < w21.heap.size := lt_of_block HF308.out
            have hk313 : w.heap.size < w21.heap.size := lt_of_block HF309.out
            go_wp2_with (first
              | refine wpList_store_rowY rfl 26 (.tmp 2) (.tmp 86) rfl (w.heap.size) #[.int .i64 0, .slice none 0 0, .slice none 0 0] rfl rfl 26 _ HF309.out (info_ch _ _ _) rfl (one_ch _ _ _ _ _ _ _) w.heap.size w HB310.out (by omega) ?_)
            intro W22 hbk hoth hbel _
            have HF314 := Lib.hid (blk_oth HF307.out hoth.out (by omega))
            have HF315 := Lib.hid (blk_oth HF308.out hoth.out (by omega))
            have HF316 := Lib.hid hbk.out
            have HB317 := Lib.hid hbel.out
            clear hbk hoth hbel HB310  HF307 HF308 HF309
            go_wp2_with fail
            refine bodyPost_ret (results_ctY rfl _ _ (w.heap.size) #[.int .i64 0, .slice none 0 0, .slice none 0 0] rfl (run_loadVar_row _ (w.heap.size) 26 26 _ (0, 0) _ HF316.out Try.underlying26 rfl (info_ch _ _ _))) rfl ?_
            exact Or.inr ⟨HNO.out, rfl, HB317.out, by have := HB317.out.size; omega⟩
        · have hez : (er != 0) = true := by simpa using her
          have hez2 : (er == 0) = false := by simpa using her
          have HNO := Lib.hid (show ∀ lv0 es0 cs0, ¬ IsC S lv0 es0 cs0 by
            intro lv0 es0 cs0 hc
            exact her (HGD.out lv0 es0 cs0 hc).1)
          clear her hT
          have hc301 : wr.cell? ⟨w1.heap.size, 0, none⟩ = some (.string S) := by rw [cell_of_row _ _ _ _ _ _ HR.out]; rfl
          have hc302 : wr.cell? ⟨w1.heap.size, 1, none⟩ = some (.int .i64 (q : Int)) := by rw [cell_of_row _ _ _ _ _ _ HR.out]; rfl
          have hc303 : wr.cell? ⟨w1.heap.size, 2, none⟩ = some (.int .i64 er) := by rw [cell_of_row _ _ _ _ _ _ HR.out]; rfl

          have hk304 : w1.heap.size < wr.heap.size := lt_of_block HR.out
          have hk305 : w.heap.size + 1 < wr.heap.size := lt_of_block HC.out
          have hk306 : w.heap.size < wr.heap.size := lt_of_block HRV.out
          go_wp2_with (first
            | refine wpList_store_rowY rfl 26 (.tmp 2) (.tmp 86) rfl (w.heap.size) #[.int .i64 0, .slice none 0 0, .slice none 0 0] rfl rfl 26 _ HRV.out (info_ch _ _ _) rfl (one_ch _ _ _ _ _ _ _) w.heap.size w HB.out (by omega) ?_)
          intro W21 hbk hoth hbel _
          clear hc301 hc302 hc303
          have HF307 := Lib.hid (blk_oth HR.out hoth.out (by omega))
          have HF308 := Lib.hid (blk_oth HC.out hoth.out (by omega))
          have HF309 := Lib.hid hbk.out
          have HB310 := Lib.hid hbel.out
          clear hbk hoth hbel HB  HR HC HRV
          go_wp2_with fail
          refine bodyPost_ret (results_ctY rfl _ _ (w.heap.size) #[.int .i64 0, .slice none 0 0, .slice none 0 0] rfl (run_loadVar_row _ (w.heap.size) 26 26 _ (0, 0) _ HF309.out Try.underlying26 rfl (info_ch _ _ _))) rfl ?_
          exact Or.inr ⟨HNO.out, rfl, HB310.out, by have := HB310.out.size; omega⟩
end Go.Proofs.Ytdjjabjegmbmaaa
