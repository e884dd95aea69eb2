/- The contract of chunk.guess over this translation: what is read of a text is the chunk, if it is one's. Condition: texts of fewer than a million bytes. -/
import Derived.Test.YtdjjabjegmbmaaaMp
import Derived.Test.YtdjjabjegmbmaaaPx
import Derived.Test.YtdjjabjegmbmaaaSu
import Derived.Deep.DeepCutAuto
import Derived.Deep.RegionLaw
import Derived.Deep.RegionHeld3
namespace Go.Proofs.Ytdjjabjegmbmaaa
open Go.RowKit Vi Zp

theorem info_enA : (Try.prog.info? 36).map (fun i => (i.zero, i.size, i.bytes)) = some (some (.agg #[.string ⟨#[]⟩, .string ⟨#[]⟩]), 2, 32) := by kernel_rfl
theorem info_inA : (Try.prog.info? 3).map (fun i => (i.zero, i.size, i.bytes)) = some (some (.int .i64 0), 1, 8) := by kernel_rfl
theorem one_ch3 {lv : Int} {vE vC : Value} (h1 : vE.oneCell' = true) (h2 : vC.oneCell' = true) : (#[.int .i64 lv, vE, vC] : Array Value).all (·.oneCell') = true := by
  have h0 : (Value.int .i64 lv).oneCell' = true := rfl
  simp [h0, h1, h2]
def GuessP (S : ByteArray) (B : Nat) (w : World) (e : Ending) (w' : World) : Prop :=
  ∃ (lv : Int) (vE vC : Value) (es : List En) (cs : List Int), e = .returned (.agg #[.int .i64 lv, vE, vC]) ∧ (∀ lv0 es0 cs0, IsC S lv0 es0 cs0 → lv = lv0 ∧ es = es0 ∧ cs = cs0) ∧ OwX enC 2 36 w' B vE es ∧ OwX inC 1 3 w' B vC cs ∧ es.length ≤ 8 ∧ cs.length ≤ 8 ∧ Below B w w' ∧ B ≤ w'.heap.size
set_option maxHeartbeats 8000000 in
set_option maxRecDepth 100000 in
theorem guess_any (S : ByteArray) (w : World) (hS : S.size ≤ 999999) :
    Calls Try.prog 78 #[.string S] w (GuessP S w.heap.size w) := by
  have hSm : S.size ≤ 1000000 := by omega
  obtain ⟨x1, q1, e1, hF⟩ : ∃ x q e, Rd.fix S 0 0 1 = (x, q, e) := ⟨_, _, _, rfl⟩
  have hq1 := Rd.fix_le S 0 0 1 (Nat.zero_le _)
  have H1 := Lib.hid (fun (W : World) (B : Nat) (g : Sc W B true S 0 0) => fixU W B S 0 0 1 hSm (Nat.zero_le _) g)
  rw [hF] at hq1 H1
  dsimp only at hq1 H1
  have HF := Lib.hid hF
  clear hF
  have HB1 := Lib.hid (Below.refl w.heap.size w)
  go_enter Try.func78, Try.ntmps78
  go_wp2_with fail
  have HF2 := Lib.hid (blk_new w (.cells #[.int .i64 0, .slice none 0 0, .slice none 0 0] 26 (0, 0)))
  have HB3 := Lib.hid (HB1.out.alloc HB1.out.size (.cells #[.int .i64 0, .slice none 0 0, .slice none 0 0] 26 (0, 0)))
  clear HB1
  refine (new_any S (w.alloc (.cells #[.int .i64 0, .slice none 0 0, .slice none 0 0] 26 (0, 0)))).mono ?_
  rintro e w1 ⟨rfl, hs, hb⟩
  obtain ⟨B, hBe⟩ : ∃ B, B = (w.alloc (.cells #[.int .i64 0, .slice none 0 0, .slice none 0 0] 26 (0, 0))).heap.size := ⟨_, rfl⟩
  rw [← hBe] at hs
  have HF4 := Lib.hid (blk_below HF2.out hb)
  have hk5 : w.heap.size < B := by rw [hBe]; exact lt_of_block HF2.out
  have HB6 := Lib.hid (HB3.out.trans (hb.mono HB3.out.size))
  have hBw : w.heap.size ≤ B := by rw [hBe]; exact HB3.out.size
  have HBE := Lib.hid hBe
  have HS7 := Lib.hid hs
  clear hb hs hBe HB3 HF2
  rw [← HBE.out]
  have hBl1 : B < w1.heap.size := HS7.out.lt
  have hk8 : w.heap.size < w1.heap.size := lt_of_block HF4.out
  go_wp2_with fail
  have hk9 : B < w1.heap.size := HS7.out.lt
  have HF10 := Lib.hid (blk_alloc HF4.out (.cells #[.int .i64 0, .slice none 0 0, .slice none 0 0] 26 (0, 0)))
  have HF11 := Lib.hid (blk_new w1 (.cells #[.int .i64 0, .slice none 0 0, .slice none 0 0] 26 (0, 0)))
  have HB12 := Lib.hid (HB6.out.alloc HB6.out.size (.cells #[.int .i64 0, .slice none 0 0, .slice none 0 0] 26 (0, 0)))
  clear HB6
  have HS13 := Lib.hid (HS7.out.alloc (.cells #[.int .i64 0, .slice none 0 0, .slice none 0 0] 26 (0, 0)))
  clear HS7
  go_wp2_with fail
  refine (H1.out (w1.alloc (.cells #[.int .i64 0, .slice none 0 0, .slice none 0 0] 26 (0, 0))) B HS13.out).mono ?_
  rintro e w2 ⟨rfl, hs, hk⟩
  have HF14 := Lib.hid (blk_but HF10.out hk (by omega))
  have HF15 := Lib.hid (blk_but HF11.out hk (by omega))
  have HB16 := Lib.hid (But.below HB12.out hk hBw HB12.out.size)
  have HS17 := Lib.hid hs
  clear hs hk HB12 HS13 HF10 HF4 HF11
  have hk18 : w.heap.size < w2.heap.size := lt_of_block HF14.out
  have hk19 : w1.heap.size < w2.heap.size := lt_of_block HF15.out
  by_cases hI : x1 = ⟨#[73]⟩
  · have hsg : (x1.toList == [73]) = true := by rw [hI]; decide +kernel
    obtain ⟨lv, q2, e2, hN1⟩ : ∃ a0 a1 a2, Rd.num S q1 e1 40 = (a0, a1, a2) := ⟨_, _, _, rfl⟩
    have hq2 := Rd.num_le S q1 e1 40 hq1
    have H2 := Lib.hid (fun (W : World) (g : Sc W B true S q1 e1) => numU W B S q1 e1 40 hSm hq1 g (by omega))
    rw [hN1] at hq2 H2
    dsimp only at hq2 H2
    obtain ⟨n, q3, e3, hN2⟩ : ∃ a0 a1 a2, Rd.num S q2 e2 8 = (a0, a1, a2) := ⟨_, _, _, rfl⟩
    have hq3 := Rd.num_le S q2 e2 8 hq2
    have hn8 := num_max S q2 e2 8 (by omega)
    have H3 := Lib.hid (fun (W : World) (g : Sc W B true S q2 e2) => numU W B S q2 e2 8 hSm hq2 g (by omega))
    rw [hN2] at hq3 hn8 H3
    dsimp only at hq3 hn8 H3
    obtain ⟨hn0, hn8⟩ := hn8
    have HG := Lib.hid (GG.over HF.out hI hN1 hN2)
    clear hN1 hN2 hI
    go_wp2_with fail
    refine (H2.out w2 HS17.out).mono ?_
    rintro e w3 ⟨rfl, hs, hk⟩
    have HF20 := Lib.hid (blk_but HF14.out hk (by omega))
    have HF21 := Lib.hid (blk_but HF15.out hk (by omega))
    have HB22 := Lib.hid (But.below HB16.out hk hBw HB16.out.size)
    have HS23 := Lib.hid hs
    clear hs hk HB16 HS17 HF14 HF15
    have hk24 : w.heap.size < w3.heap.size := lt_of_block HF20.out
    have hk25 : w1.heap.size < w3.heap.size := lt_of_block HF21.out
    have hc26 : w3.cell? ⟨w1.heap.size, 0, none⟩ = some (.int .i64 0) := by rw [cell_of_row _ _ _ _ _ _ HF21.out]; rfl
    have hc27 : w3.cell? ⟨w1.heap.size, 1, none⟩ = some (.slice none 0 0) := by rw [cell_of_row _ _ _ _ _ _ HF21.out]; rfl
    have hc28 : w3.cell? ⟨w1.heap.size, 2, none⟩ = some (.slice none 0 0) := by rw [cell_of_row _ _ _ _ _ _ HF21.out]; rfl
    have hz29 : w3.frozen? ⟨w1.heap.size, 0, none⟩ = false := frozen_of_row _ _ _ _ _ HF21.out
    go_upto_region 5 with (fail)
    clear hc26 hc27 hc28 hz29
    have HF30 := Lib.hid (show (w3.setCell ⟨w1.heap.size, 0, none⟩ (.int .i64 lv)).heap[w.heap.size]? = some (.cells #[.int .i64 0, .slice none 0 0, .slice none 0 0] 26 (0, 0)) by rw [Below.heap_setCell _ _ _ _ (by show w.heap.size ≠ w1.heap.size; omega)]; exact HF20.out)
    have HF31 := Lib.hid (show (w3.setCell ⟨w1.heap.size, 0, none⟩ (.int .i64 lv)).heap[w1.heap.size]? = some (.cells #[.int .i64 lv, .slice none 0 0, .slice none 0 0] 26 (0, 0)) by have h := heap_setCell_at (i := 0) (u := .int .i64 lv) HF21.out; exact h)
    have HB32 := Lib.hid (HB22.out.setCell (p := ⟨w1.heap.size, 0, none⟩) (by show w.heap.size ≤ w1.heap.size; omega) (.int .i64 lv))
    have HSv := Lib.hid (HS23.out.kept (show (w3.setCell ⟨w1.heap.size, 0, none⟩ (.int .i64 lv)).heap[B]? = w3.heap[B]? from Below.heap_setCell _ _ _ _ (by show B ≠ w1.heap.size; omega)))
    go_wp2_with fail
    refine (H3.out (w3.setCell ⟨w1.heap.size, 0, none⟩ (.int .i64 lv)) HSv.out).mono ?_
    rintro e w4 ⟨rfl, hs, hk⟩
    have HF33 := Lib.hid (blk_but HF30.out hk (by omega))
    have HF34 := Lib.hid (blk_but HF31.out hk (by omega))
    have HB35 := Lib.hid (But.below HB32.out hk hBw HB32.out.size)
    have HS36 := Lib.hid hs
    clear hs hk HB32 HSv HF30 HF31
    have hk37 : w.heap.size < w4.heap.size := lt_of_block HF33.out
    have hk38 : w1.heap.size < w4.heap.size := lt_of_block HF34.out
    go_wp2_with fail
    go_loopw [16] (fun i wr => ∃ (k q : Nat) (er : Int) (es : List En) (cs : List Int) (vE vC : Value), i = .int .i64 (k : Int) ∧ (k : Int) ≤ n ∧ Sc wr B true S q er ∧ q ≤ S.size ∧ wr.heap[w1.heap.size]? = some (.cells #[.int .i64 lv, vE, vC] 26 (0, 0)) ∧ wr.heap[w.heap.size]? = some (.cells #[.int .i64 0, .slice none 0 0, .slice none 0 0] 26 (0, 0)) ∧ OwX enC 2 36 wr (w1.heap.size + 1) vE es ∧ OwX inC 1 3 wr (w1.heap.size + 1) vC cs ∧ es.length = k ∧ cs.length ≤ k ∧ GG S q er lv n es cs k ∧ Below w.heap.size w wr) (fun i _ => 8 - (intOf i).toNat)
    case atStart => exact ⟨0, q3, e3, [], [], _, _, rfl, by omega, HS36.out, hq3, HF34.out, HF33.out, OwX.nil _, OwX.nil _, rfl, Nat.le_refl _, HG.out, HB35.out⟩
    case round =>
      obtain ⟨k, q, er, es, cs, vE, vC, rfl, hkn, hsc, hq, hbc, hbr, hoe, hoc, hle, hlc, hgg, hb⟩ := hrel
      have HS0 := Lib.hid hsc
      have HC := Lib.hid hbc
      have HRV := Lib.hid hbr
      have HE := Lib.hid hoe
      have HI := Lib.hid hoc
      have HGG := Lib.hid hgg
      have HB := Lib.hid hb
      have HLE := Lib.hid hle
      have hle2 : es.length ≤ k := by omega
      have hCl := lt_of_block hbc
      have hvE := hoe.one
      have hvC := hoc.one
      clear hsc hbc hbr hoe hoc hgg hb hle
      by_cases hlt : (k : Int) < n
      · have hd1 : decide ((k : Int) < n) = true := decide_eq_true hlt
        obtain ⟨s, q4, e4, hT1⟩ : ∃ a0 a1 a2, Rd.text S q er 64 = (a0, a1, a2) := ⟨_, _, _, rfl⟩
        have hq4 := Rd.text_le S q er 64 hq
        have HT1 := Lib.hid (fun (W : World) (g : Sc W B true S q er) => textU W B S q er 64 hSm hq g (by omega))
        rw [hT1] at hq4 HT1
        dsimp only at hq4 HT1
        have HR1 := Lib.hid hT1
        clear hT1
        have HLC := Lib.hid (show cs.length ≤ k + 1 by omega)
        by_cases h0 : lv = 0
        · have HLV := Lib.hid h0
          have hlz : (lv == 0) = true := by simpa using h0
          clear h0
          have HK301 := Lib.hid (KK.refl [B, w1.heap.size] wr)
          obtain ⟨v, q5, e5, hT2⟩ : ∃ a0 a1 a2, Rd.text S q4 e4 2048 = (a0, a1, a2) := ⟨_, _, _, rfl⟩
          have hq5 := Rd.text_le S q4 e4 2048 hq4
          have HT2 := Lib.hid (fun (W : World) (g : Sc W B true S q4 e4) => textU W B S q4 e4 2048 hSm hq4 g (by omega))
          rw [hT2] at hq5 HT2
          dsimp only at hq5 HT2
          have HG2 := Lib.hid (HGG.out.stepL HLV.out hlt hq HR1.out hT2)
          clear hT2
          go_wp2_with fail
          refine (HT1.out wr HS0.out).mono ?_
          rintro e w21 ⟨rfl, hs, hk⟩
          have HF302 := Lib.hid (blk_but HC.out hk (by omega))
          have HF303 := Lib.hid (blk_but HRV.out hk (by omega))
          have HK304 := Lib.hid (HK301.out.trans (KK.of_but hk (by simp)))
          have HS305 := Lib.hid (hs)
          clear hs hk HK301 HS0 HC HRV
          have hk306 := HK304.out.size
          have hk307 : w1.heap.size < w21.heap.size := lt_of_block HF302.out
          have hk308 : w.heap.size < w21.heap.size := lt_of_block HF303.out
          have hk309 := HK304.out.size
          have hk310 : w1.heap.size < w21.heap.size := lt_of_block HF302.out
          have hk311 : w.heap.size < w21.heap.size := lt_of_block HF303.out
          have HF312 := Lib.hid (blk_alloc HF302.out (.cells #[.string s, .string ⟨#[]⟩] 36 (0, 0)))
          have HF313 := Lib.hid (blk_alloc HF303.out (.cells #[.string s, .string ⟨#[]⟩] 36 (0, 0)))
          have HF314 := Lib.hid (blk_new w21 (.cells #[.string s, .string ⟨#[]⟩] 36 (0, 0)))
          have HK315 := Lib.hid (HK304.out.alloc (.cells #[.string s, .string ⟨#[]⟩] 36 (0, 0)))
          clear HK304
          have HS316 := Lib.hid (HS305.out.alloc (.cells #[.string s, .string ⟨#[]⟩] 36 (0, 0)))
          clear HS305
          have hc317 : (w21.alloc (.cells #[.string s, .string ⟨#[]⟩] 36 (0, 0))).cell? ⟨w1.heap.size, 0, none⟩ = some (.int .i64 lv) := by rw [cell_of_row _ _ _ _ _ _ HF312.out]; rfl
          have hc318 : w21.cell? ⟨w1.heap.size, 0, none⟩ = some (.int .i64 lv) := by rw [cell_of_row _ _ _ _ _ _ HF302.out]; rfl
          have hc319 : (w21.alloc (.cells #[.string s, .string ⟨#[]⟩] 36 (0, 0))).cell? ⟨w1.heap.size, 1, none⟩ = some (vE) := by rw [cell_of_row _ _ _ _ _ _ HF312.out]; rfl
          have hc320 : w21.cell? ⟨w1.heap.size, 1, none⟩ = some (vE) := by rw [cell_of_row _ _ _ _ _ _ HF302.out]; rfl
          have hc321 : (w21.alloc (.cells #[.string s, .string ⟨#[]⟩] 36 (0, 0))).cell? ⟨w1.heap.size, 2, none⟩ = some (vC) := by rw [cell_of_row _ _ _ _ _ _ HF312.out]; rfl
          have hc322 : w21.cell? ⟨w1.heap.size, 2, none⟩ = some (vC) := by rw [cell_of_row _ _ _ _ _ _ HF302.out]; rfl
          have hl323 : w1.heap.size < w21.heap.size := lt_of_block HF302.out
          have hl324 : ¬ w1.heap.size = w21.heap.size := by omega
          go_wp2_with fail
          clear hc317 hc318 hc319 hc320 hc321 hc322 hl323 hl324
          refine (HT2.out (w21.alloc (.cells #[.string s, .string ⟨#[]⟩] 36 (0, 0))) HS316.out).mono ?_
          rintro e w22 ⟨rfl, hs, hk⟩
          have HF325 := Lib.hid (blk_but HF312.out hk (by omega))
          have HF326 := Lib.hid (blk_but HF313.out hk (by omega))
          have HF327 := Lib.hid (blk_but HF314.out hk (by omega))
          have HK328 := Lib.hid (HK315.out.trans (KK.of_but hk (by simp)))
          have HS329 := Lib.hid (hs)
          clear hs hk HK315 HS316 HF312 HF302 HF313 HF303 HF314
          have hk330 := HK328.out.size
          have hk331 : w1.heap.size < w22.heap.size := lt_of_block HF325.out
          have hk332 : w.heap.size < w22.heap.size := lt_of_block HF326.out
          have hk333 : w21.heap.size < w22.heap.size := lt_of_block HF327.out
          have hk334 := HK328.out.size
          have hk335 : w1.heap.size < w22.heap.size := lt_of_block HF325.out
          have hk336 : w.heap.size < w22.heap.size := lt_of_block HF326.out
          have hk337 : w21.heap.size < w22.heap.size := lt_of_block HF327.out
          have hc338 : w22.cell? ⟨w21.heap.size, 0, none⟩ = some (.string s) := by rw [cell_of_row _ _ _ _ _ _ HF327.out]; rfl
          have hc339 : w22.cell? ⟨w21.heap.size, 1, none⟩ = some (.string ⟨#[]⟩) := by rw [cell_of_row _ _ _ _ _ _ HF327.out]; rfl
          have hz340 : w22.frozen? ⟨w21.heap.size, 1, none⟩ = false := frozen_of_row _ _ _ _ _ HF327.out
          go_upto_region 12 with (fail)
          clear hc338 hc339 hz340
          have HF341 := Lib.hid (show (w22.setCell ⟨w21.heap.size, 1, none⟩ (.string v)).heap[w1.heap.size]? = some (.cells #[.int .i64 lv, vE, vC] 26 (0, 0)) by rw [Below.heap_setCell _ _ _ _ (by show w1.heap.size ≠ w21.heap.size; omega)]; exact HF325.out)
          have HF342 := Lib.hid (show (w22.setCell ⟨w21.heap.size, 1, none⟩ (.string v)).heap[w.heap.size]? = some (.cells #[.int .i64 0, .slice none 0 0, .slice none 0 0] 26 (0, 0)) by rw [Below.heap_setCell _ _ _ _ (by show w.heap.size ≠ w21.heap.size; omega)]; exact HF326.out)
          have HF343 := Lib.hid (show (w22.setCell ⟨w21.heap.size, 1, none⟩ (.string v)).heap[w21.heap.size]? = some (.cells #[.string s, .string v] 36 (0, 0)) by have h := heap_setCell_at (i := 1) (u := .string v) HF327.out; exact h)
          have HK344 := Lib.hid (HK328.out.setNew (b := w21.heap.size) (by omega) 1 (.string v))
          have HS345 := Lib.hid (HS329.out.kept (show (w22.setCell ⟨w21.heap.size, 1, none⟩ (.string v)).heap[B]? = w22.heap[B]? from Below.heap_setCell _ _ _ _ (by show B ≠ w21.heap.size; omega)))
          obtain ⟨wa, hwa⟩ : ∃ wa, wa = (w22.setCell ⟨w21.heap.size, 1, none⟩ (.string v)) := ⟨_, rfl⟩
          rw [← hwa] at HF341 HF342 HF343 HS345 HK344
          rw [← hwa]
          clear hwa
          have hk346 : w1.heap.size < wa.heap.size := lt_of_block HF341.out
          have hk347 : w.heap.size < wa.heap.size := lt_of_block HF342.out
          have hk348 : w21.heap.size < wa.heap.size := lt_of_block HF343.out
          have HEa := Lib.hid (HE.out.kk HK344.out (by simp; omega))
          have HIa := Lib.hid (HI.out.kk HK344.out (by simp; omega))
          have HBa := Lib.hid (HK344.out.below HB.out (by simp; omega) (by have := HB.out.size; omega))
          have hCa : w1.heap.size < wa.heap.size := lt_of_block HF341.out
          have HRa := Lib.hid (Below.refl (w1.heap.size + 1) wa)
          have hc349 : wa.cell? ⟨w1.heap.size, 0, none⟩ = some (.int .i64 lv) := by rw [cell_of_row _ _ _ _ _ _ HF341.out]; rfl
          have hc350 : wa.cell? ⟨w1.heap.size, 1, none⟩ = some (vE) := by rw [cell_of_row _ _ _ _ _ _ HF341.out]; rfl
          have hc351 : wa.cell? ⟨w1.heap.size, 2, none⟩ = some (vC) := by rw [cell_of_row _ _ _ _ _ _ HF341.out]; rfl
          have hc352 : wa.cell? ⟨w21.heap.size, 0, none⟩ = some (.string s) := by rw [cell_of_row _ _ _ _ _ _ HF343.out]; rfl
          have hc353 : wa.cell? ⟨w21.heap.size, 1, none⟩ = some (.string v) := by rw [cell_of_row _ _ _ _ _ _ HF343.out]; rfl
          go_wp2_with (at_builtin; refine wpList_appX rfl (.tmp 38) (.tmp 40) 23 36 _ 32 rfl Try.underlying23 info_enA rfl (by omega) (by omega) enC_len enC_one (w1.heap.size + 1) wa (HRa.out.alloc (by omega) _) (by simp; omega) vE es rfl (HEa.out.alloc _) wa.heap.size 1 (s, v) #[.string s, .string v] 36 (0, 0) rfl (heap_alloc_new wa _) rfl (by omega) ?_)
          intro v7 w7 HO7 HB7 HZ7 HG7
          clear hc349 hc350 hc351 hc352 hc353
          have HC7 := Lib.hid ((HB7.out.block (w1.heap.size) (by omega)).trans HF341.out)
          have HR7 := Lib.hid ((HB7.out.block (w.heap.size) (by omega)).trans HF342.out)
          have HS7 := Lib.hid (HS345.out.kept (HB7.out.block B (by omega)))
          have HI7 := Lib.hid ((HIa.out.alloc _).other (HEa.out.alloc _) (by decide) HG7.out)
          have HL7 := Lib.hid (HBa.out.trans (HB7.out.mono (by omega)))
          have hC7 : w1.heap.size < w7.heap.size := lt_of_block HC7.out
          have hv7 := HO7.out.one
          obtain ⟨A7, n7, c7, rfl⟩ := HO7.out.sl3
          clear HRa HEa HIa HBa
          have HK501 := Lib.hid (KK.refl [B, w1.heap.size] w7)
          have hc502 : w7.cell? ⟨w1.heap.size, 0, none⟩ = some (.int .i64 lv) := by rw [cell_of_row _ _ _ _ _ _ HC7.out]; rfl
          have hc503 : w7.cell? ⟨w1.heap.size, 1, none⟩ = some (vE) := by rw [cell_of_row _ _ _ _ _ _ HC7.out]; rfl
          have hc504 : w7.cell? ⟨w1.heap.size, 2, none⟩ = some (vC) := by rw [cell_of_row _ _ _ _ _ _ HC7.out]; rfl
          have hz505 : w7.frozen? ⟨w1.heap.size, 1, none⟩ = false := frozen_of_row _ _ _ _ _ HC7.out
          go_wp2_with fail
          clear hc502 hc503 hc504 hz505
          have HF506 := Lib.hid (show (w7.setCell ⟨w1.heap.size, 1, none⟩ (.slice A7 n7 c7)).heap[w1.heap.size]? = some (.cells #[.int .i64 lv, .slice A7 n7 c7, vC] 26 (0, 0)) by have h := heap_setCell_at (i := 1) (u := .slice A7 n7 c7) HC7.out; exact h)
          have HF507 := Lib.hid (show (w7.setCell ⟨w1.heap.size, 1, none⟩ (.slice A7 n7 c7)).heap[w.heap.size]? = some (.cells #[.int .i64 0, .slice none 0 0, .slice none 0 0] 26 (0, 0)) by rw [Below.heap_setCell _ _ _ _ (by show w.heap.size ≠ w1.heap.size; omega)]; exact HR7.out)
          have HK508 := Lib.hid (HK501.out.set (b := w1.heap.size) (by simp) 1 (.slice A7 n7 c7))
          have HS509 := Lib.hid (HS7.out.kept (show (w7.setCell ⟨w1.heap.size, 1, none⟩ (.slice A7 n7 c7)).heap[B]? = w7.heap[B]? from Below.heap_setCell _ _ _ _ (by show B ≠ w1.heap.size; omega)))
          go_roundw
          case rel => exact ⟨k + 1, q5, e5, es ++ [(s, v)], cs, .slice A7 n7 c7, vC, by go_num, by omega, HS509.out, hq5, HF506.out, HF507.out, HO7.out.kk HK508.out (by simp; omega), HI7.out.kk HK508.out (by simp; omega), by rw [List.length_append, HLE.out]; rfl, HLC.out, HG2.out, HK508.out.below HL7.out (by simp; omega) (by have := HL7.out.size; omega)⟩
          case measure => simp [intOf] <;> omega
        · have HLV := Lib.hid (show lv ≠ 0 from h0)
          have hlz : (lv == 0) = false := by simpa using h0
          clear h0
          have HK301 := Lib.hid (KK.refl [B, w1.heap.size] wr)
          obtain ⟨v, q5, e5, hT2⟩ : ∃ a0 a1 a2, Rd.fix S q4 e4 32 = (a0, a1, a2) := ⟨_, _, _, rfl⟩
          have hq5 := Rd.fix_le S q4 e4 32 hq4
          have HT2 := Lib.hid (fun (W : World) (g : Sc W B true S q4 e4) => fixU W B S q4 e4 32 hSm hq4 g)
          rw [hT2] at hq5 HT2
          dsimp only at hq5 HT2
          obtain ⟨c, q6, e6, hT3⟩ : ∃ a0 a1 a2, Rd.num S q5 e5 2147483648 = (a0, a1, a2) := ⟨_, _, _, rfl⟩
          have hq6 := Rd.num_le S q5 e5 2147483648 hq5
          have HT3 := Lib.hid (fun (W : World) (g : Sc W B true S q5 e5) => numU W B S q5 e5 2147483648 hSm hq5 g (by omega))
          rw [hT3] at hq6 HT3
          dsimp only at hq6 HT3
          have HG2 := Lib.hid (HGG.out.stepI HLV.out hlt hq HR1.out hT2 hT3)
          clear hT2 hT3
          go_wp2_with fail
          refine (HT1.out wr HS0.out).mono ?_
          rintro e w21 ⟨rfl, hs, hk⟩
          have HF302 := Lib.hid (blk_but HC.out hk (by omega))
          have HF303 := Lib.hid (blk_but HRV.out hk (by omega))
          have HK304 := Lib.hid (HK301.out.trans (KK.of_but hk (by simp)))
          have HS305 := Lib.hid (hs)
          clear hs hk HK301 HS0 HC HRV
          have hk306 := HK304.out.size
          have hk307 : w1.heap.size < w21.heap.size := lt_of_block HF302.out
          have hk308 : w.heap.size < w21.heap.size := lt_of_block HF303.out
          have hk309 := HK304.out.size
          have hk310 : w1.heap.size < w21.heap.size := lt_of_block HF302.out
          have hk311 : w.heap.size < w21.heap.size := lt_of_block HF303.out
          have HF312 := Lib.hid (blk_alloc HF302.out (.cells #[.string s, .string ⟨#[]⟩] 36 (0, 0)))
          have HF313 := Lib.hid (blk_alloc HF303.out (.cells #[.string s, .string ⟨#[]⟩] 36 (0, 0)))
          have HF314 := Lib.hid (blk_new w21 (.cells #[.string s, .string ⟨#[]⟩] 36 (0, 0)))
          have HK315 := Lib.hid (HK304.out.alloc (.cells #[.string s, .string ⟨#[]⟩] 36 (0, 0)))
          clear HK304
          have HS316 := Lib.hid (HS305.out.alloc (.cells #[.string s, .string ⟨#[]⟩] 36 (0, 0)))
          clear HS305
          have hc317 : (w21.alloc (.cells #[.string s, .string ⟨#[]⟩] 36 (0, 0))).cell? ⟨w1.heap.size, 0, none⟩ = some (.int .i64 lv) := by rw [cell_of_row _ _ _ _ _ _ HF312.out]; rfl
          have hc318 : w21.cell? ⟨w1.heap.size, 0, none⟩ = some (.int .i64 lv) := by rw [cell_of_row _ _ _ _ _ _ HF302.out]; rfl
          have hc319 : (w21.alloc (.cells #[.string s, .string ⟨#[]⟩] 36 (0, 0))).cell? ⟨w1.heap.size, 1, none⟩ = some (vE) := by rw [cell_of_row _ _ _ _ _ _ HF312.out]; rfl
          have hc320 : w21.cell? ⟨w1.heap.size, 1, none⟩ = some (vE) := by rw [cell_of_row _ _ _ _ _ _ HF302.out]; rfl
          have hc321 : (w21.alloc (.cells #[.string s, .string ⟨#[]⟩] 36 (0, 0))).cell? ⟨w1.heap.size, 2, none⟩ = some (vC) := by rw [cell_of_row _ _ _ _ _ _ HF312.out]; rfl
          have hc322 : w21.cell? ⟨w1.heap.size, 2, none⟩ = some (vC) := by rw [cell_of_row _ _ _ _ _ _ HF302.out]; rfl
          have hl323 : w1.heap.size < w21.heap.size := lt_of_block HF302.out
          have hl324 : ¬ w1.heap.size = w21.heap.size := by omega
          go_wp2_with fail
          clear hc317 hc318 hc319 hc320 hc321 hc322 hl323 hl324
          refine (HT2.out (w21.alloc (.cells #[.string s, .string ⟨#[]⟩] 36 (0, 0))) HS316.out).mono ?_
          rintro e w22 ⟨rfl, hs, hk⟩
          have HF325 := Lib.hid (blk_but HF312.out hk (by omega))
          have HF326 := Lib.hid (blk_but HF313.out hk (by omega))
          have HF327 := Lib.hid (blk_but HF314.out hk (by omega))
          have HK328 := Lib.hid (HK315.out.trans (KK.of_but hk (by simp)))
          have HS329 := Lib.hid (hs)
          clear hs hk HK315 HS316 HF312 HF302 HF313 HF303 HF314
          have hk330 := HK328.out.size
          have hk331 : w1.heap.size < w22.heap.size := lt_of_block HF325.out
          have hk332 : w.heap.size < w22.heap.size := lt_of_block HF326.out
          have hk333 : w21.heap.size < w22.heap.size := lt_of_block HF327.out
          have hk334 := HK328.out.size
          have hk335 : w1.heap.size < w22.heap.size := lt_of_block HF325.out
          have hk336 : w.heap.size < w22.heap.size := lt_of_block HF326.out
          have hk337 : w21.heap.size < w22.heap.size := lt_of_block HF327.out
          have hc338 : w22.cell? ⟨w21.heap.size, 0, none⟩ = some (.string s) := by rw [cell_of_row _ _ _ _ _ _ HF327.out]; rfl
          have hc339 : w22.cell? ⟨w21.heap.size, 1, none⟩ = some (.string ⟨#[]⟩) := by rw [cell_of_row _ _ _ _ _ _ HF327.out]; rfl
          have hz340 : w22.frozen? ⟨w21.heap.size, 1, none⟩ = false := frozen_of_row _ _ _ _ _ HF327.out
          go_upto_region 11 with (fail)
          clear hc338 hc339 hz340
          have HF341 := Lib.hid (show (w22.setCell ⟨w21.heap.size, 1, none⟩ (.string v)).heap[w1.heap.size]? = some (.cells #[.int .i64 lv, vE, vC] 26 (0, 0)) by rw [Below.heap_setCell _ _ _ _ (by show w1.heap.size ≠ w21.heap.size; omega)]; exact HF325.out)
          have HF342 := Lib.hid (show (w22.setCell ⟨w21.heap.size, 1, none⟩ (.string v)).heap[w.heap.size]? = some (.cells #[.int .i64 0, .slice none 0 0, .slice none 0 0] 26 (0, 0)) by rw [Below.heap_setCell _ _ _ _ (by show w.heap.size ≠ w21.heap.size; omega)]; exact HF326.out)
          have HF343 := Lib.hid (show (w22.setCell ⟨w21.heap.size, 1, none⟩ (.string v)).heap[w21.heap.size]? = some (.cells #[.string s, .string v] 36 (0, 0)) by have h := heap_setCell_at (i := 1) (u := .string v) HF327.out; exact h)
          have HK344 := Lib.hid (HK328.out.setNew (b := w21.heap.size) (by omega) 1 (.string v))
          have HS345 := Lib.hid (HS329.out.kept (show (w22.setCell ⟨w21.heap.size, 1, none⟩ (.string v)).heap[B]? = w22.heap[B]? from Below.heap_setCell _ _ _ _ (by show B ≠ w21.heap.size; omega)))
          obtain ⟨wa, hwa⟩ : ∃ wa, wa = (w22.setCell ⟨w21.heap.size, 1, none⟩ (.string v)) := ⟨_, rfl⟩
          rw [← hwa] at HF341 HF342 HF343 HS345 HK344
          rw [← hwa]
          clear hwa
          have HEa := Lib.hid (HE.out.kk HK344.out (by simp; omega))
          have HIa := Lib.hid (HI.out.kk HK344.out (by simp; omega))
          have HBa := Lib.hid (HK344.out.below HB.out (by simp; omega) (by have := HB.out.size; omega))
          have hCa : w1.heap.size < wa.heap.size := lt_of_block HF341.out
          have hXa : w21.heap.size < wa.heap.size := lt_of_block HF343.out
          have hXc : w1.heap.size + 1 ≤ w21.heap.size := by omega
          have c2 : wa.cell? ⟨w1.heap.size, 2, none⟩ = some vC := by rw [cell_of_row _ _ _ _ _ _ HF341.out]; rfl
          have z2 : wa.frozen? ⟨w1.heap.size, 2, none⟩ = false := frozen_of_row _ _ _ _ _ HF341.out
          go_region_law (first
            | ((refine step_appX ?_ (.tmp 31) (.tmp 34) 24 3 _ 8 ?_ Try.underlying24 info_inA ?_ ?_ ?_ inC_len inC_one (w1.heap.size + 1) v9 ?_ ?_ vC cs ?_ (HI9.out.alloc _) v9.heap.size 1 c #[.int .i64 c] 3 (0, 0) ?_ (heap_alloc_new v9 _) ?_ ?_ ?_; (rfl); (rfl); (rfl); (omega); (omega); (exact (Below.refl _ v9).alloc (by omega) _); (simp; omega); (rfl); (rfl); (rfl); (omega); intro v7 w7 HO7 HB7 HZ7 HG7; have HC7 := Lib.hid ((HB7.out.block (w1.heap.size) (by omega)).trans HC9.out); have c2 : w7.cell? ⟨w1.heap.size, 2, none⟩ = some vC := (cell_of_row _ _ _ _ _ _ HC7.out).trans rfl; have z2 : w7.frozen? ⟨w1.heap.size, 2, none⟩ = false := frozen_of_row _ _ _ _ _ HC7.out; obtain ⟨A7, n7, c7, rfl⟩ := HO7.out.sl3))
            | ((rw [if_pos (by simp [Region.wanted])]); go_simp; go_at_call 137; (first | (with_reducible refine (HT3.out _ HS345.out).mono ?_) | (with_reducible refine (HT3.out _ HS345.out.drew).mono ?_)); rintro e v9 ⟨rfl, hs9, hk9⟩; (try dsimp only); have k9 : KK [B] wa v9 := (by first | exact KK.of_but hk9 (by simp) | exact KK.drewl (KK.of_but hk9 (by simp))); have HS9 := Lib.hid hs9; have HC9 := Lib.hid (k9.blk HF341.out (by simp; omega)); have HX9 := Lib.hid (k9.blk HF343.out (by simp; omega)); have HR9 := Lib.hid (k9.blk HF342.out (by simp; omega)); have HE9 := Lib.hid (HEa.out.kk k9 (by simp; omega)); have HI9 := Lib.hid (HIa.out.kk k9 (by simp; omega)); have HB9 := Lib.hid (k9.below HBa.out (by simp; omega) (by have := HBa.out.size; omega)); have hz9 : wa.heap.size ≤ v9.heap.size := k9.size; have c2 : v9.cell? ⟨w1.heap.size, 2, none⟩ = some vC := (cell_of_row _ _ _ _ _ _ HC9.out).trans rfl; have z2 : v9.frozen? ⟨w1.heap.size, 2, none⟩ = false := frozen_of_row _ _ _ _ _ HC9.out; have c3 : (v9.alloc (.cells #[.int .i64 c] 3 (0, 0))).cell? ⟨w1.heap.size, 2, none⟩ = some vC := (cell_of_row _ _ _ _ _ _ (blk_alloc HC9.out _)).trans rfl; clear k9 hs9 hk9))
          all_goals
            have hx8 : (v9.alloc (.cells #[.int .i64 c] 3 (0, 0))).heap[w21.heap.size]? = some (.cells #[.string s, .string v] 36 (0, 0)) := blk_alloc HX9.out _
            have HX7 := Lib.hid ((HI9.out.alloc (.cells #[.int .i64 c] 3 (0, 0))).box HG7.out hx8 (Or.inl (by decide)))
            have HR7 := Lib.hid ((HB7.out.block (w.heap.size) (by omega)).trans HR9.out)
            have HS7 := Lib.hid (HS9.out.kept (HB7.out.block B (by omega)))
            have HE7 := Lib.hid ((HE9.out.alloc _).other (HI9.out.alloc _) (by decide) HG7.out)
            have HL7 := Lib.hid (HB9.out.trans (HB7.out.mono (by omega)))
            have hC7 : w1.heap.size < w7.heap.size := lt_of_block HC7.out
            have hX7 : w21.heap.size < w7.heap.size := lt_of_block HX7.out
            have hv7 := HO7.out.one
            clear c2 c3 z2 hx8 HEa HIa HBa HE9 HI9 HB9 HX9 HR9 HC9 HS9
            have HK501 := Lib.hid (KK.refl [B, w1.heap.size] w7)
            have HF502 := Lib.hid (show (w7.setCell ⟨w1.heap.size, 2, none⟩ (.slice A7 n7 c7)).heap[w1.heap.size]? = some (.cells #[.int .i64 lv, vE, .slice A7 n7 c7] 26 (0, 0)) by have h := heap_setCell_at (i := 2) (u := .slice A7 n7 c7) HC7.out; exact h)
            have HF503 := Lib.hid (show (w7.setCell ⟨w1.heap.size, 2, none⟩ (.slice A7 n7 c7)).heap[w.heap.size]? = some (.cells #[.int .i64 0, .slice none 0 0, .slice none 0 0] 26 (0, 0)) by rw [Below.heap_setCell _ _ _ _ (by show w.heap.size ≠ w1.heap.size; omega)]; exact HR7.out)
            have HF504 := Lib.hid (show (w7.setCell ⟨w1.heap.size, 2, none⟩ (.slice A7 n7 c7)).heap[w21.heap.size]? = some (.cells #[.string s, .string v] 36 (0, 0)) by rw [Below.heap_setCell _ _ _ _ (by show w21.heap.size ≠ w1.heap.size; omega)]; exact HX7.out)
            have HK505 := Lib.hid (HK501.out.set (b := w1.heap.size) (by simp) 2 (.slice A7 n7 c7))
            have HS506 := Lib.hid (HS7.out.kept (show (w7.setCell ⟨w1.heap.size, 2, none⟩ (.slice A7 n7 c7)).heap[B]? = w7.heap[B]? from Below.heap_setCell _ _ _ _ (by show B ≠ w1.heap.size; omega)))
            obtain ⟨wb, hwb⟩ : ∃ wb, wb = (w7.setCell ⟨w1.heap.size, 2, none⟩ (.slice A7 n7 c7)) := ⟨_, rfl⟩
            have HO8 := Lib.hid (HO7.out.kk HK505.out (by simp; omega))
            have HE8 := Lib.hid (HE7.out.kk HK505.out (by simp; omega))
            have HL8 := Lib.hid (HK505.out.below HL7.out (by simp; omega) (by have := HL7.out.size; omega))
            rw [← hwb] at HF502 HF503 HF504 HS506 HK505 HO8 HE8 HL8
            rw [← hwb]
            clear hwb HO7 HB7 HZ7 HG7 HE7 HL7 HC7 HR7 HX7 HS7 hv7
            have hXb : w21.heap.size < wb.heap.size := lt_of_block HF504.out
            have hCb : w1.heap.size < wb.heap.size := lt_of_block HF502.out
            have hv8 := HO8.out.one
            have HLC8 := Lib.hid (show (cs ++ [c]).length ≤ k + 1 by rw [List.length_append]; simp; omega)
            have HK701 := Lib.hid (KK.refl [B, w1.heap.size] wb)
            have HC := HLC8
            have HRV := HLC8
            have HLC := HLC8
            have HEa := Lib.hid (HE8.out.kk HK701.out (by simp; omega))
            have HIa := Lib.hid (HO8.out.kk HK701.out (by simp; omega))
            have HBa := Lib.hid (HK701.out.below HL8.out (by simp; omega) (by have := HL8.out.size; omega))
            have hCa : w1.heap.size < wb.heap.size := lt_of_block HF502.out
            have HRa := Lib.hid (Below.refl (w1.heap.size + 1) wb)
            have hc702 : wb.cell? ⟨w1.heap.size, 0, none⟩ = some (.int .i64 lv) := by rw [cell_of_row _ _ _ _ _ _ HF502.out]; rfl
            have hc703 : wb.cell? ⟨w1.heap.size, 1, none⟩ = some (vE) := by rw [cell_of_row _ _ _ _ _ _ HF502.out]; rfl
            have hc704 : wb.cell? ⟨w1.heap.size, 2, none⟩ = some (.slice A7 n7 c7) := by rw [cell_of_row _ _ _ _ _ _ HF502.out]; rfl
            have hc705 : wb.cell? ⟨w21.heap.size, 0, none⟩ = some (.string s) := by rw [cell_of_row _ _ _ _ _ _ HF504.out]; rfl
            have hc706 : wb.cell? ⟨w21.heap.size, 1, none⟩ = some (.string v) := by rw [cell_of_row _ _ _ _ _ _ HF504.out]; rfl
            go_wp2_with (at_builtin; refine wpList_appX rfl (.tmp 38) (.tmp 40) 23 36 _ 32 rfl Try.underlying23 info_enA rfl (by omega) (by omega) enC_len enC_one (w1.heap.size + 1) wb (HRa.out.alloc (by omega) _) (by simp; omega) vE es rfl (HEa.out.alloc _) wb.heap.size 1 (s, v) #[.string s, .string v] 36 (0, 0) rfl (heap_alloc_new wb _) rfl (by omega) ?_)
            intro v5b w5b HO5b HB5b HZ5b HG5b
            clear hc702 hc703 hc704 hc705 hc706
            have HC5b := Lib.hid ((HB5b.out.block (w1.heap.size) (by omega)).trans HF502.out)
            have HR5b := Lib.hid ((HB5b.out.block (w.heap.size) (by omega)).trans HF503.out)
            have HS5b := Lib.hid (HS506.out.kept (HB5b.out.block B (by omega)))
            have HI5b := Lib.hid ((HIa.out.alloc _).other (HEa.out.alloc _) (by decide) HG5b.out)
            have HL5b := Lib.hid (HBa.out.trans (HB5b.out.mono (by omega)))
            have hC5b : w1.heap.size < w5b.heap.size := lt_of_block HC5b.out
            have hv5b := HO5b.out.one
            obtain ⟨A5, n5, c5, rfl⟩ := HO5b.out.sl3
            clear HRa HEa HIa HBa
            have HK501 := Lib.hid (KK.refl [B, w1.heap.size] w5b)
            have hc502 : w5b.cell? ⟨w1.heap.size, 0, none⟩ = some (.int .i64 lv) := by rw [cell_of_row _ _ _ _ _ _ HC5b.out]; rfl
            have hc503 : w5b.cell? ⟨w1.heap.size, 1, none⟩ = some (vE) := by rw [cell_of_row _ _ _ _ _ _ HC5b.out]; rfl
            have hc504 : w5b.cell? ⟨w1.heap.size, 2, none⟩ = some (.slice A7 n7 c7) := by rw [cell_of_row _ _ _ _ _ _ HC5b.out]; rfl
            have hz505 : w5b.frozen? ⟨w1.heap.size, 1, none⟩ = false := frozen_of_row _ _ _ _ _ HC5b.out
            go_wp2_with fail
            clear hc502 hc503 hc504 hz505
            have HF506 := Lib.hid (show (w5b.setCell ⟨w1.heap.size, 1, none⟩ (.slice A5 n5 c5)).heap[w1.heap.size]? = some (.cells #[.int .i64 lv, .slice A5 n5 c5, .slice A7 n7 c7] 26 (0, 0)) by have h := heap_setCell_at (i := 1) (u := .slice A5 n5 c5) HC5b.out; exact h)
            have HF507 := Lib.hid (show (w5b.setCell ⟨w1.heap.size, 1, none⟩ (.slice A5 n5 c5)).heap[w.heap.size]? = some (.cells #[.int .i64 0, .slice none 0 0, .slice none 0 0] 26 (0, 0)) by rw [Below.heap_setCell _ _ _ _ (by show w.heap.size ≠ w1.heap.size; omega)]; exact HR5b.out)
            have HK508 := Lib.hid (HK501.out.set (b := w1.heap.size) (by simp) 1 (.slice A5 n5 c5))
            have HS509 := Lib.hid (HS5b.out.kept (show (w5b.setCell ⟨w1.heap.size, 1, none⟩ (.slice A5 n5 c5)).heap[B]? = w5b.heap[B]? from Below.heap_setCell _ _ _ _ (by show B ≠ w1.heap.size; omega)))
            go_roundw
            case rel => exact ⟨k + 1, q6, e6, es ++ [(s, v)], (cs ++ [c]), .slice A5 n5 c5, .slice A7 n7 c7, by go_num, by omega, HS509.out, hq6, HF506.out, HF507.out, HO5b.out.kk HK508.out (by simp; omega), HI5b.out.kk HK508.out (by simp; omega), by rw [List.length_append, HLE.out]; rfl, HLC.out, HG2.out, HK508.out.below HL5b.out (by simp; omega) (by have := HL5b.out.size; omega)⟩
            case measure => simp [intOf] <;> omega
      · have hd1 : decide ((k : Int) < n) = false := decide_eq_false hlt
        have HGD := Lib.hid (fun lv0 es0 cs0 (hc : IsC S lv0 es0 cs0) => (HGG.out.done hlt hc).2)
        have HK301 := Lib.hid (KK.refl [B, w1.heap.size, w.heap.size] wr)
        have hRl : w.heap.size < wr.heap.size := lt_of_block HRV.out
        go_wp2_with (first
          | refine wpList_store_rowY rfl 26 (.tmp 2) (.tmp 44) rfl (w.heap.size) #[.int .i64 lv, vE, vC] rfl rfl 26 _ HRV.out (info_ch _ _ _) rfl (one_ch3 hvE hvC) (w.heap.size) wr (Below.refl _ _) (Nat.le_refl _) ?_
          | refine wpList_load_row rfl 26 (.tmp 4) rfl (w1.heap.size) rfl 26 #[.int .i64 lv, vE, vC] (0, 0) _ HC.out Try.underlying26 rfl (info_ch _ _ _) ?_)
        intro W21 hbk hoth hbel _
        have HF302 := Lib.hid (blk_oth HC.out hoth.out (by omega))
        have HF303 := Lib.hid hbk.out
        have HK304 := Lib.hid (HK301.out.row (b := w.heap.size) (Or.inl (by simp)) hbel.out hoth.out)
        have HS305 := Lib.hid (HS0.out.kept (hoth.out B (by omega)))
        clear hbk hoth hbel HK301 HS0 HC HRV
        have hk306 := HK304.out.size
        have hk307 : w1.heap.size < W21.heap.size := lt_of_block HF302.out
        have hk308 : w.heap.size < W21.heap.size := lt_of_block HF303.out
        go_wp2_with fail
        refine bodyPost_ret (results_cY rfl _ _ (w.heap.size) #[.int .i64 lv, vE, vC] rfl (run_loadVar_row _ (w.heap.size) 26 26 _ (0, 0) _ HF303.out Try.underlying26 rfl (info_ch _ _ _))) rfl ?_
        exact ⟨lv, vE, vC, es, cs, rfl, HGD.out, (HE.out.kk HK304.out (by simp; omega)).mono (by omega), (HI.out.kk HK304.out (by simp; omega)).mono (by omega), by omega, by omega, HK304.out.below HB.out (by simp; omega) (by have := HB.out.size; omega), by have := HK304.out.size; omega⟩
  · have hsg : (x1.toList == [73]) = false := by
      rw [beq_eq_false_iff_ne, Lib.toList_data]
      exact fun e => hI (ba_ext e)
    obtain ⟨n, q3, e3, hN2⟩ : ∃ a0 a1 a2, Rd.num S q1 e1 8 = (a0, a1, a2) := ⟨_, _, _, rfl⟩
    have hq3 := Rd.num_le S q1 e1 8 hq1
    have hn8 := num_max S q1 e1 8 (by omega)
    have H3 := Lib.hid (fun (W : World) (g : Sc W B true S q1 e1) => numU W B S q1 e1 8 hSm hq1 g (by omega))
    rw [hN2] at hq3 hn8 H3
    dsimp only at hq3 hn8 H3
    obtain ⟨hn0, hn8⟩ := hn8
    have HG := Lib.hid (GG.leaf HF.out hI hN2)
    clear hN2 hI
    go_wp2_with fail
    refine (H3.out w2 HS17.out).mono ?_
    rintro e w3 ⟨rfl, hs, hk⟩
    have HF20 := Lib.hid (blk_but HF14.out hk (by omega))
    have HF21 := Lib.hid (blk_but HF15.out hk (by omega))
    have HB22 := Lib.hid (But.below HB16.out hk hBw HB16.out.size)
    have HS23 := Lib.hid hs
    clear hs hk HB16 HS17 HF14 HF15
    have hk24 : w.heap.size < w3.heap.size := lt_of_block HF20.out
    have hk25 : w1.heap.size < w3.heap.size := lt_of_block HF21.out
    go_wp2_with fail
    go_loopw [16] (fun i wr => ∃ (k q : Nat) (er : Int) (es : List En) (cs : List Int) (vE vC : Value), i = .int .i64 (k : Int) ∧ (k : Int) ≤ n ∧ Sc wr B true S q er ∧ q ≤ S.size ∧ wr.heap[w1.heap.size]? = some (.cells #[.int .i64 0, vE, vC] 26 (0, 0)) ∧ wr.heap[w.heap.size]? = some (.cells #[.int .i64 0, .slice none 0 0, .slice none 0 0] 26 (0, 0)) ∧ OwX enC 2 36 wr (w1.heap.size + 1) vE es ∧ OwX inC 1 3 wr (w1.heap.size + 1) vC cs ∧ es.length = k ∧ cs.length ≤ k ∧ GG S q er 0 n es cs k ∧ Below w.heap.size w wr) (fun i _ => 8 - (intOf i).toNat)
    case atStart => exact ⟨0, q3, e3, [], [], _, _, rfl, by omega, HS23.out, hq3, HF21.out, HF20.out, OwX.nil _, OwX.nil _, rfl, Nat.le_refl _, HG.out, HB22.out⟩
    case round =>
      obtain ⟨k, q, er, es, cs, vE, vC, rfl, hkn, hsc, hq, hbc, hbr, hoe, hoc, hle, hlc, hgg, hb⟩ := hrel
      have HS0 := Lib.hid hsc
      have HC := Lib.hid hbc
      have HRV := Lib.hid hbr
      have HE := Lib.hid hoe
      have HI := Lib.hid hoc
      have HGG := Lib.hid hgg
      have HB := Lib.hid hb
      have HLE := Lib.hid hle
      have hle2 : es.length ≤ k := by omega
      have hCl := lt_of_block hbc
      have hvE := hoe.one
      have hvC := hoc.one
      clear hsc hbc hbr hoe hoc hgg hb hle
      by_cases hlt : (k : Int) < n
      · have hd1 : decide ((k : Int) < n) = true := decide_eq_true hlt
        obtain ⟨s, q4, e4, hT1⟩ : ∃ a0 a1 a2, Rd.text S q er 64 = (a0, a1, a2) := ⟨_, _, _, rfl⟩
        have hq4 := Rd.text_le S q er 64 hq
        have HT1 := Lib.hid (fun (W : World) (g : Sc W B true S q er) => textU W B S q er 64 hSm hq g (by omega))
        rw [hT1] at hq4 HT1
        dsimp only at hq4 HT1
        have HR1 := Lib.hid hT1
        clear hT1
        have HLC := Lib.hid (show cs.length ≤ k + 1 by omega)
        have HLV := Lib.hid (show (0 : Int) = 0 from rfl)
        have HK301 := Lib.hid (KK.refl [B, w1.heap.size] wr)
        obtain ⟨v, q5, e5, hT2⟩ : ∃ a0 a1 a2, Rd.text S q4 e4 2048 = (a0, a1, a2) := ⟨_, _, _, rfl⟩
        have hq5 := Rd.text_le S q4 e4 2048 hq4
        have HT2 := Lib.hid (fun (W : World) (g : Sc W B true S q4 e4) => textU W B S q4 e4 2048 hSm hq4 g (by omega))
        rw [hT2] at hq5 HT2
        dsimp only at hq5 HT2
        have HG2 := Lib.hid (HGG.out.stepL HLV.out hlt hq HR1.out hT2)
        clear hT2
        go_wp2_with fail
        refine (HT1.out wr HS0.out).mono ?_
        rintro e w21 ⟨rfl, hs, hk⟩
        have HF302 := Lib.hid (blk_but HC.out hk (by omega))
        have HF303 := Lib.hid (blk_but HRV.out hk (by omega))
        have HK304 := Lib.hid (HK301.out.trans (KK.of_but hk (by simp)))
        have HS305 := Lib.hid (hs)
        clear hs hk HK301 HS0 HC HRV
        have hk306 := HK304.out.size
        have hk307 : w1.heap.size < w21.heap.size := lt_of_block HF302.out
        have hk308 : w.heap.size < w21.heap.size := lt_of_block HF303.out
        have hk309 := HK304.out.size
        have hk310 : w1.heap.size < w21.heap.size := lt_of_block HF302.out
        have hk311 : w.heap.size < w21.heap.size := lt_of_block HF303.out
        have HF312 := Lib.hid (blk_alloc HF302.out (.cells #[.string s, .string ⟨#[]⟩] 36 (0, 0)))
        have HF313 := Lib.hid (blk_alloc HF303.out (.cells #[.string s, .string ⟨#[]⟩] 36 (0, 0)))
        have HF314 := Lib.hid (blk_new w21 (.cells #[.string s, .string ⟨#[]⟩] 36 (0, 0)))
        have HK315 := Lib.hid (HK304.out.alloc (.cells #[.string s, .string ⟨#[]⟩] 36 (0, 0)))
        clear HK304
        have HS316 := Lib.hid (HS305.out.alloc (.cells #[.string s, .string ⟨#[]⟩] 36 (0, 0)))
        clear HS305
        have hc317 : (w21.alloc (.cells #[.string s, .string ⟨#[]⟩] 36 (0, 0))).cell? ⟨w1.heap.size, 0, none⟩ = some (.int .i64 0) := by rw [cell_of_row _ _ _ _ _ _ HF312.out]; rfl
        have hc318 : w21.cell? ⟨w1.heap.size, 0, none⟩ = some (.int .i64 0) := by rw [cell_of_row _ _ _ _ _ _ HF302.out]; rfl
        have hc319 : (w21.alloc (.cells #[.string s, .string ⟨#[]⟩] 36 (0, 0))).cell? ⟨w1.heap.size, 1, none⟩ = some (vE) := by rw [cell_of_row _ _ _ _ _ _ HF312.out]; rfl
        have hc320 : w21.cell? ⟨w1.heap.size, 1, none⟩ = some (vE) := by rw [cell_of_row _ _ _ _ _ _ HF302.out]; rfl
        have hc321 : (w21.alloc (.cells #[.string s, .string ⟨#[]⟩] 36 (0, 0))).cell? ⟨w1.heap.size, 2, none⟩ = some (vC) := by rw [cell_of_row _ _ _ _ _ _ HF312.out]; rfl
        have hc322 : w21.cell? ⟨w1.heap.size, 2, none⟩ = some (vC) := by rw [cell_of_row _ _ _ _ _ _ HF302.out]; rfl
        have hl323 : w1.heap.size < w21.heap.size := lt_of_block HF302.out
        have hl324 : ¬ w1.heap.size = w21.heap.size := by omega
        go_wp2_with fail
        clear hc317 hc318 hc319 hc320 hc321 hc322 hl323 hl324
        refine (HT2.out (w21.alloc (.cells #[.string s, .string ⟨#[]⟩] 36 (0, 0))) HS316.out).mono ?_
        rintro e w22 ⟨rfl, hs, hk⟩
        have HF325 := Lib.hid (blk_but HF312.out hk (by omega))
        have HF326 := Lib.hid (blk_but HF313.out hk (by omega))
        have HF327 := Lib.hid (blk_but HF314.out hk (by omega))
        have HK328 := Lib.hid (HK315.out.trans (KK.of_but hk (by simp)))
        have HS329 := Lib.hid (hs)
        clear hs hk HK315 HS316 HF312 HF302 HF313 HF303 HF314
        have hk330 := HK328.out.size
        have hk331 : w1.heap.size < w22.heap.size := lt_of_block HF325.out
        have hk332 : w.heap.size < w22.heap.size := lt_of_block HF326.out
        have hk333 : w21.heap.size < w22.heap.size := lt_of_block HF327.out
        have hk334 := HK328.out.size
        have hk335 : w1.heap.size < w22.heap.size := lt_of_block HF325.out
        have hk336 : w.heap.size < w22.heap.size := lt_of_block HF326.out
        have hk337 : w21.heap.size < w22.heap.size := lt_of_block HF327.out
        have hc338 : w22.cell? ⟨w21.heap.size, 0, none⟩ = some (.string s) := by rw [cell_of_row _ _ _ _ _ _ HF327.out]; rfl
        have hc339 : w22.cell? ⟨w21.heap.size, 1, none⟩ = some (.string ⟨#[]⟩) := by rw [cell_of_row _ _ _ _ _ _ HF327.out]; rfl
        have hz340 : w22.frozen? ⟨w21.heap.size, 1, none⟩ = false := frozen_of_row _ _ _ _ _ HF327.out
        go_upto_region 12 with (fail)
        clear hc338 hc339 hz340
        have HF341 := Lib.hid (show (w22.setCell ⟨w21.heap.size, 1, none⟩ (.string v)).heap[w1.heap.size]? = some (.cells #[.int .i64 0, vE, vC] 26 (0, 0)) by rw [Below.heap_setCell _ _ _ _ (by show w1.heap.size ≠ w21.heap.size; omega)]; exact HF325.out)
        have HF342 := Lib.hid (show (w22.setCell ⟨w21.heap.size, 1, none⟩ (.string v)).heap[w.heap.size]? = some (.cells #[.int .i64 0, .slice none 0 0, .slice none 0 0] 26 (0, 0)) by rw [Below.heap_setCell _ _ _ _ (by show w.heap.size ≠ w21.heap.size; omega)]; exact HF326.out)
        have HF343 := Lib.hid (show (w22.setCell ⟨w21.heap.size, 1, none⟩ (.string v)).heap[w21.heap.size]? = some (.cells #[.string s, .string v] 36 (0, 0)) by have h := heap_setCell_at (i := 1) (u := .string v) HF327.out; exact h)
        have HK344 := Lib.hid (HK328.out.setNew (b := w21.heap.size) (by omega) 1 (.string v))
        have HS345 := Lib.hid (HS329.out.kept (show (w22.setCell ⟨w21.heap.size, 1, none⟩ (.string v)).heap[B]? = w22.heap[B]? from Below.heap_setCell _ _ _ _ (by show B ≠ w21.heap.size; omega)))
        obtain ⟨wa, hwa⟩ : ∃ wa, wa = (w22.setCell ⟨w21.heap.size, 1, none⟩ (.string v)) := ⟨_, rfl⟩
        rw [← hwa] at HF341 HF342 HF343 HS345 HK344
        rw [← hwa]
        clear hwa
        have hk346 : w1.heap.size < wa.heap.size := lt_of_block HF341.out
        have hk347 : w.heap.size < wa.heap.size := lt_of_block HF342.out
        have hk348 : w21.heap.size < wa.heap.size := lt_of_block HF343.out
        have HEa := Lib.hid (HE.out.kk HK344.out (by simp; omega))
        have HIa := Lib.hid (HI.out.kk HK344.out (by simp; omega))
        have HBa := Lib.hid (HK344.out.below HB.out (by simp; omega) (by have := HB.out.size; omega))
        have hCa : w1.heap.size < wa.heap.size := lt_of_block HF341.out
        have HRa := Lib.hid (Below.refl (w1.heap.size + 1) wa)
        have hc349 : wa.cell? ⟨w1.heap.size, 0, none⟩ = some (.int .i64 0) := by rw [cell_of_row _ _ _ _ _ _ HF341.out]; rfl
        have hc350 : wa.cell? ⟨w1.heap.size, 1, none⟩ = some (vE) := by rw [cell_of_row _ _ _ _ _ _ HF341.out]; rfl
        have hc351 : wa.cell? ⟨w1.heap.size, 2, none⟩ = some (vC) := by rw [cell_of_row _ _ _ _ _ _ HF341.out]; rfl
        have hc352 : wa.cell? ⟨w21.heap.size, 0, none⟩ = some (.string s) := by rw [cell_of_row _ _ _ _ _ _ HF343.out]; rfl
        have hc353 : wa.cell? ⟨w21.heap.size, 1, none⟩ = some (.string v) := by rw [cell_of_row _ _ _ _ _ _ HF343.out]; rfl
        go_wp2_with (at_builtin; refine wpList_appX rfl (.tmp 38) (.tmp 40) 23 36 _ 32 rfl Try.underlying23 info_enA rfl (by omega) (by omega) enC_len enC_one (w1.heap.size + 1) wa (HRa.out.alloc (by omega) _) (by simp; omega) vE es rfl (HEa.out.alloc _) wa.heap.size 1 (s, v) #[.string s, .string v] 36 (0, 0) rfl (heap_alloc_new wa _) rfl (by omega) ?_)
        intro v7 w7 HO7 HB7 HZ7 HG7
        clear hc349 hc350 hc351 hc352 hc353
        have HC7 := Lib.hid ((HB7.out.block (w1.heap.size) (by omega)).trans HF341.out)
        have HR7 := Lib.hid ((HB7.out.block (w.heap.size) (by omega)).trans HF342.out)
        have HS7 := Lib.hid (HS345.out.kept (HB7.out.block B (by omega)))
        have HI7 := Lib.hid ((HIa.out.alloc _).other (HEa.out.alloc _) (by decide) HG7.out)
        have HL7 := Lib.hid (HBa.out.trans (HB7.out.mono (by omega)))
        have hC7 : w1.heap.size < w7.heap.size := lt_of_block HC7.out
        have hv7 := HO7.out.one
        obtain ⟨A7, n7, c7, rfl⟩ := HO7.out.sl3
        clear HRa HEa HIa HBa
        have HK501 := Lib.hid (KK.refl [B, w1.heap.size] w7)
        have hc502 : w7.cell? ⟨w1.heap.size, 0, none⟩ = some (.int .i64 0) := by rw [cell_of_row _ _ _ _ _ _ HC7.out]; rfl
        have hc503 : w7.cell? ⟨w1.heap.size, 1, none⟩ = some (vE) := by rw [cell_of_row _ _ _ _ _ _ HC7.out]; rfl
        have hc504 : w7.cell? ⟨w1.heap.size, 2, none⟩ = some (vC) := by rw [cell_of_row _ _ _ _ _ _ HC7.out]; rfl
        have hz505 : w7.frozen? ⟨w1.heap.size, 1, none⟩ = false := frozen_of_row _ _ _ _ _ HC7.out
        go_wp2_with fail
        clear hc502 hc503 hc504 hz505
        have HF506 := Lib.hid (show (w7.setCell ⟨w1.heap.size, 1, none⟩ (.slice A7 n7 c7)).heap[w1.heap.size]? = some (.cells #[.int .i64 0, .slice A7 n7 c7, vC] 26 (0, 0)) by have h := heap_setCell_at (i := 1) (u := .slice A7 n7 c7) HC7.out; exact h)
        have HF507 := Lib.hid (show (w7.setCell ⟨w1.heap.size, 1, none⟩ (.slice A7 n7 c7)).heap[w.heap.size]? = some (.cells #[.int .i64 0, .slice none 0 0, .slice none 0 0] 26 (0, 0)) by rw [Below.heap_setCell _ _ _ _ (by show w.heap.size ≠ w1.heap.size; omega)]; exact HR7.out)
        have HK508 := Lib.hid (HK501.out.set (b := w1.heap.size) (by simp) 1 (.slice A7 n7 c7))
        have HS509 := Lib.hid (HS7.out.kept (show (w7.setCell ⟨w1.heap.size, 1, none⟩ (.slice A7 n7 c7)).heap[B]? = w7.heap[B]? from Below.heap_setCell _ _ _ _ (by show B ≠ w1.heap.size; omega)))
        go_roundw
        case rel => exact ⟨k + 1, q5, e5, es ++ [(s, v)], cs, .slice A7 n7 c7, vC, by go_num, by omega, HS509.out, hq5, HF506.out, HF507.out, HO7.out.kk HK508.out (by simp; omega), HI7.out.kk HK508.out (by simp; omega), by rw [List.length_append, HLE.out]; rfl, HLC.out, HG2.out, HK508.out.below HL7.out (by simp; omega) (by have := HL7.out.size; omega)⟩
        case measure => simp [intOf] <;> omega
      · have hd1 : decide ((k : Int) < n) = false := decide_eq_false hlt
        have HGD := Lib.hid (fun lv0 es0 cs0 (hc : IsC S lv0 es0 cs0) => (HGG.out.done hlt hc).2)
        have HK301 := Lib.hid (KK.refl [B, w1.heap.size, w.heap.size] wr)
        have hRl : w.heap.size < wr.heap.size := lt_of_block HRV.out
        go_wp2_with (first
          | refine wpList_store_rowY rfl 26 (.tmp 2) (.tmp 44) rfl (w.heap.size) #[.int .i64 0, vE, vC] rfl rfl 26 _ HRV.out (info_ch _ _ _) rfl (one_ch3 hvE hvC) (w.heap.size) wr (Below.refl _ _) (Nat.le_refl _) ?_
          | refine wpList_load_row rfl 26 (.tmp 4) rfl (w1.heap.size) rfl 26 #[.int .i64 0, vE, vC] (0, 0) _ HC.out Try.underlying26 rfl (info_ch _ _ _) ?_)
        intro W21 hbk hoth hbel _
        have HF302 := Lib.hid (blk_oth HC.out hoth.out (by omega))
        have HF303 := Lib.hid hbk.out
        have HK304 := Lib.hid (HK301.out.row (b := w.heap.size) (Or.inl (by simp)) hbel.out hoth.out)
        have HS305 := Lib.hid (HS0.out.kept (hoth.out B (by omega)))
        clear hbk hoth hbel HK301 HS0 HC HRV
        have hk306 := HK304.out.size
        have hk307 : w1.heap.size < W21.heap.size := lt_of_block HF302.out
        have hk308 : w.heap.size < W21.heap.size := lt_of_block HF303.out
        go_wp2_with fail
        refine bodyPost_ret (results_cY rfl _ _ (w.heap.size) #[.int .i64 0, vE, vC] rfl (run_loadVar_row _ (w.heap.size) 26 26 _ (0, 0) _ HF303.out Try.underlying26 rfl (info_ch _ _ _))) rfl ?_
        exact ⟨0, vE, vC, es, cs, rfl, HGD.out, (HE.out.kk HK304.out (by simp; omega)).mono (by omega), (HI.out.kk HK304.out (by simp; omega)).mono (by omega), by omega, by omega, HK304.out.below HB.out (by simp; omega) (by have := HB.out.size; omega), by have := HK304.out.size; omega⟩
end Go.Proofs.Ytdjjabjegmbmaaa
