/- The walk of ChunkBack over this translation. No condition. -/
import Derived.Test.YthndcgaelcilnaaMf
import Derived.Test.YthndcgaelcilnaaMd
namespace Go.Proofs.Ythndcgaelcilnaa.LChunkBack
open Go.RowKit Vi Zp

theorem rd_later {w w' : World} {ea ca : Option Addr} {en cn : Nat} {es : List En} {cs : List Int} (h : ChR w ea ca en cn es cs) (hb : Below w.heap.size w w') : ChR w' ea ca en cn es cs := h.below hb
set_option maxRecDepth 100000 in
set_option maxHeartbeats 4000000 in
theorem walk (lv : Int) (ea ca : Option Addr) (en ec cn cc : Nat) (es : List En) (cs : List Int) (S : ByteArray) (w : World) (h : ChR w ea ca en cn es cs) (hn : en ≤ maxLen) (hm : cn ≤ maxLen) :
    Calls Try.prog 8 #[.agg #[.int .i64 lv, .slice ea en ec, .slice ca cn cc], .string S] w fun e w' => e = .returned (.bool true) ∧ Below w.heap.size w w' := by
  unfold maxLen at hn hm
  have hn' : (en : Int) ≤ 9223372036854775807 := by omega
  have hm' : (cn : Int) ≤ 9223372036854775807 := by omega
  have H := Lib.hid h
  have LE := Lib.hid h.e.1
  have LC := Lib.hid h.c.1
  clear h hn hm
  have HFW := Lib.hid (fun (W : World) (g : ChR W ea ca en cn es cs) => few19_any lv ea ca en ec cn cc es cs W g hn' hm')
  have HCP := Lib.hid (fun (W : World) (g : ChR W ea ca en cn es cs) => cput_any lv ea ca en ec cn cc es cs W g hn' hm')
  have HB1 := Lib.hid (Below.refl w.heap.size w)
  go_enter Try.func8, Try.ntmps8
  have HF2 := Lib.hid (blk_new w (.cells #[.int .i64 lv, .slice ea en ec, .slice ca cn cc] 50 (0, 0)))
  have HB3 := Lib.hid (HB1.out.alloc HB1.out.size (.cells #[.int .i64 lv, .slice ea en ec, .slice ca cn cc] 50 (0, 0)))
  clear HB1
  have hc4 : (w.alloc (.cells #[.int .i64 lv, .slice ea en ec, .slice ca cn cc] 50 (0, 0))).cell? ⟨w.heap.size, 0, none⟩ = some (.int .i64 lv) := by rw [cell_of_row _ _ _ _ _ _ HF2.out]; rfl
  have hc5 : (w.alloc (.cells #[.int .i64 lv, .slice ea en ec, .slice ca cn cc] 50 (0, 0))).cell? ⟨w.heap.size, 1, none⟩ = some (.slice ea en ec) := by rw [cell_of_row _ _ _ _ _ _ HF2.out]; rfl
  have hc6 : (w.alloc (.cells #[.int .i64 lv, .slice ea en ec, .slice ca cn cc] 50 (0, 0))).cell? ⟨w.heap.size, 2, none⟩ = some (.slice ca cn cc) := by rw [cell_of_row _ _ _ _ _ _ HF2.out]; rfl
  go_wp2_with fail
  clear hc4 hc5 hc6
  refine (HFW.out (w.alloc (.cells #[.int .i64 lv, .slice ea en ec, .slice ca cn cc] 50 (0, 0))) (rd_later H.out HB3.out)).mono ?_
  rintro e w1 ⟨b, rfl, _, hb1⟩
  have HF7 := Lib.hid (blk_below HF2.out hb1)
  have HB8 := Lib.hid (HB3.out.trans (hb1.mono (by have := HB3.out.size; simp at this ⊢ <;> omega)))
  clear hb1 HB3 HF2
  cases b with
  | false =>
    go_wp2_with fail
    refine (awake19 w1).mono ?_
    rintro e w2 ⟨rfl, hb2⟩
    have HF9 := Lib.hid (blk_below HF7.out hb2)
    have HB10 := Lib.hid (HB8.out.trans (hb2.mono HB8.out.size))
    clear hb2 HB8 HF7
    go_wp2_with fail
    go_ret
    exact ⟨rfl, HB10.out⟩
  | true =>
    by_cases hs : 5000 < S.size
    · have hd1 : decide ((5000 : Int) < (S.size : Int)) = true := decide_eq_true (by omega)
      go_wp2_with fail
      refine (awake19 w1).mono ?_
      rintro e w2 ⟨rfl, hb2⟩
      have HF9 := Lib.hid (blk_below HF7.out hb2)
      have HB10 := Lib.hid (HB8.out.trans (hb2.mono HB8.out.size))
      clear hb2 HB8 HF7
      go_wp2_with fail
      go_ret
      exact ⟨rfl, HB10.out⟩
    · have hd1 : decide ((5000 : Int) < (S.size : Int)) = false := decide_eq_false (by omega)
      have CS1 := Lib.hid (fun W : World => ctake_any S W (by omega))
      by_cases hz : chW lv es cs = 0
      · obtain ⟨T, hT⟩ : ∃ T : ByteArray, T = ⟨(putC lv es cs).toArray⟩ := ⟨_, rfl⟩
        have HV := Lib.hid (show cputV lv es cs = .tuple #[.string T, .int .i64 0] by unfold cputV; rw [if_pos hz, hT])
        rw [HV.out] at HCP
        have hic : IsC T lv es cs := ⟨hz, by rw [hT]⟩
        have hTs : T.size ≤ 999999 := by
          obtain ⟨hfit, hok⟩ := chW_zero hz
          have f3 := (fitB_yes hfit).2.2.1
          have k1 := headC_len lv es.length
          have k2 := putK_len lv es cs hok es.length (Nat.le_refl _)
          rw [hT, bytes_sizeM]
          unfold putC
          rw [List.length_append]
          omega
        have CT := Lib.hid (fun W : World => (ctake_any T W hTs).mono (takeCY hic (fun _ _ _ k => hic.one k)))
        clear hz hT HV hic hTs
        by_cases hx : ∃ lv es cs, IsC S lv es cs
        · obtain ⟨lv2, es2, cs2, hc2⟩ := hx
          have CS := Lib.hid (fun W : World => (CS1.out W).mono (takeCY hc2 (fun _ _ _ k => hc2.one k)))
          have HV2 := Lib.hid (show cputV lv2 es2 cs2 = .tuple #[.string S, .int .i64 0] by unfold cputV; rw [if_pos hc2.1]; rw [show (⟨(putC lv2 es2 cs2).toArray⟩ : ByteArray) = S from ba_ext hc2.2])
          obtain ⟨_, _, y1, y2, y3⟩ := hc2.facts
          have hy : cs2.length ≤ 8 := by
            by_cases hl : lv2 = 0
            · rw [y2 hl]; simp
            · rw [(y3 hl).2.1]; exact y1
          have hse : (S.toList == S.toList) = true := by simp
          have hsn : (S.toList != S.toList) = false := by simp
          clear hc2 y2 y3 CS1
          have hc9 : w1.cell? ⟨w.heap.size, 0, none⟩ = some (.int .i64 lv) := by rw [cell_of_row _ _ _ _ _ _ HF7.out]; rfl
          have hc10 : w1.cell? ⟨w.heap.size, 1, none⟩ = some (.slice ea en ec) := by rw [cell_of_row _ _ _ _ _ _ HF7.out]; rfl
          have hc11 : w1.cell? ⟨w.heap.size, 2, none⟩ = some (.slice ca cn cc) := by rw [cell_of_row _ _ _ _ _ _ HF7.out]; rfl
          go_wp2_with fail
          clear hc9 hc10 hc11
          refine (HCP.out w1 (rd_later H.out HB8.out)).mono ?_
          rintro e w2 ⟨rfl, hb2⟩
          have HF12 := Lib.hid (blk_below HF7.out hb2)
          have HB13 := Lib.hid (HB8.out.trans (hb2.mono HB8.out.size))
          clear hb2 HB8 HF7
          go_wp2_with fail
          refine (CT.out w2).mono ?_
          rintro e w3 ⟨vE, vC, rfl, hoe, hoc, hb3, hz3⟩
          obtain ⟨A1, c1, hv1, hr1, _, _⟩ := hoe.rd enC_len
          obtain ⟨A2, c2, hv2, hr2, _, _⟩ := hoc.rd inC_len
          rw [LE.out] at hv1 hr1
          rw [LC.out] at hv2 hr2
          subst hv1 hv2
          have HRT := Lib.hid (show ChR w3 A1 A2 en cn es cs from ⟨hr1, hr2⟩)
          clear hr1 hr2 hoe hoc
          have HF14 := Lib.hid (blk_below HF12.out (hb3.mono (Nat.le_refl _)))
          have HB15 := Lib.hid (HB13.out.trans (hb3.mono (by have := HB13.out.size; simp at this ⊢ <;> omega)))
          clear hb3 HB13 HF12
          have hk16 : w.heap.size < w3.heap.size := lt_of_block HF14.out
          have HF17 := Lib.hid (blk_alloc HF14.out (.cells #[.int .i64 lv, .slice A1 en c1, .slice A2 cn c2] 50 (0, 0)))
          have HF18 := Lib.hid (blk_new w3 (.cells #[.int .i64 lv, .slice A1 en c1, .slice A2 cn c2] 50 (0, 0)))
          have HB19 := Lib.hid (HB15.out.alloc HB15.out.size (.cells #[.int .i64 lv, .slice A1 en c1, .slice A2 cn c2] 50 (0, 0)))
          clear HB15
          have hc20 : (w3.alloc (.cells #[.int .i64 lv, .slice A1 en c1, .slice A2 cn c2] 50 (0, 0))).cell? ⟨w.heap.size, 0, none⟩ = some (.int .i64 lv) := by rw [cell_of_row _ _ _ _ _ _ HF17.out]; rfl
          have hc21 : w3.cell? ⟨w.heap.size, 0, none⟩ = some (.int .i64 lv) := by rw [cell_of_row _ _ _ _ _ _ HF14.out]; rfl
          have hc22 : (w3.alloc (.cells #[.int .i64 lv, .slice A1 en c1, .slice A2 cn c2] 50 (0, 0))).cell? ⟨w.heap.size, 1, none⟩ = some (.slice ea en ec) := by rw [cell_of_row _ _ _ _ _ _ HF17.out]; rfl
          have hc23 : w3.cell? ⟨w.heap.size, 1, none⟩ = some (.slice ea en ec) := by rw [cell_of_row _ _ _ _ _ _ HF14.out]; rfl
          have hc24 : (w3.alloc (.cells #[.int .i64 lv, .slice A1 en c1, .slice A2 cn c2] 50 (0, 0))).cell? ⟨w.heap.size, 2, none⟩ = some (.slice ca cn cc) := by rw [cell_of_row _ _ _ _ _ _ HF17.out]; rfl
          have hc25 : w3.cell? ⟨w.heap.size, 2, none⟩ = some (.slice ca cn cc) := by rw [cell_of_row _ _ _ _ _ _ HF14.out]; rfl
          have hl26 : w.heap.size < w3.heap.size := lt_of_block HF14.out
          have hl27 : ¬ w.heap.size = w3.heap.size := by omega
          have hc28 : (w3.alloc (.cells #[.int .i64 lv, .slice A1 en c1, .slice A2 cn c2] 50 (0, 0))).cell? ⟨w3.heap.size, 0, none⟩ = some (.int .i64 lv) := by rw [cell_of_row _ _ _ _ _ _ HF18.out]; rfl
          have hc29 : (w3.alloc (.cells #[.int .i64 lv, .slice A1 en c1, .slice A2 cn c2] 50 (0, 0))).cell? ⟨w3.heap.size, 1, none⟩ = some (.slice A1 en c1) := by rw [cell_of_row _ _ _ _ _ _ HF18.out]; rfl
          have hc30 : (w3.alloc (.cells #[.int .i64 lv, .slice A1 en c1, .slice A2 cn c2] 50 (0, 0))).cell? ⟨w3.heap.size, 2, none⟩ = some (.slice A2 cn c2) := by rw [cell_of_row _ _ _ _ _ _ HF18.out]; rfl
          go_wp2_with fail
          clear hc20 hc21 hc22 hc23 hc24 hc25 hl26 hl27 hc28 hc29 hc30
          refine (rsame19_yes lv ea ca A1 A2 en ec cn cc c1 c2 es cs (w3.alloc (.cells #[.int .i64 lv, .slice A1 en c1, .slice A2 cn c2] 50 (0, 0))) (rd_later H.out HB19.out) (rd_later HRT.out ((Below.refl _ _).alloc (Nat.le_refl _) _)) hn' hm').mono ?_
          rintro e w4 ⟨rfl, hb4⟩
          have HF31 := Lib.hid (blk_below HF17.out hb4)
          have HF32 := Lib.hid (blk_below HF18.out hb4)
          have HB33 := Lib.hid (HB19.out.trans (hb4.mono HB19.out.size))
          clear hb4 HB19 HF17 HF14 HF18
          go_wp2_with fail
          refine (CS.out w4).mono ?_
          rintro e w5 ⟨vE, vC, rfl, hoe, hoc, hb5, hz5⟩
          obtain ⟨A3, c3, hv1, hr1, _, _⟩ := hoe.rd enC_len
          obtain ⟨A4, c4, hv2, hr2, _, _⟩ := hoc.rd inC_len
          obtain ⟨n3, hn3⟩ : ∃ n, n = es2.length := ⟨_, rfl⟩
          obtain ⟨n4, hn4⟩ : ∃ n, n = cs2.length := ⟨_, rfl⟩
          rw [← hn3] at hv1 hr1
          rw [← hn4] at hv2 hr2
          subst hv1 hv2
          have HRS := Lib.hid (show ChR w5 A3 A4 n3 n4 es2 cs2 from ⟨hr1, hr2⟩)
          have hn3' : (n3 : Int) ≤ 9223372036854775807 := by omega
          have hn4' : (n4 : Int) ≤ 9223372036854775807 := by omega
          have HC2 := Lib.hid (fun (W : World) (g : ChR W A3 A4 n3 n4 es2 cs2) => cput_any lv2 A3 A4 n3 c3 n4 c4 es2 cs2 W g hn3' hn4')
          rw [HV2.out] at HC2
          clear hr1 hr2 hoe hoc hn3 hn4
          have HF34 := Lib.hid (blk_below HF31.out (hb5.mono (Nat.le_refl _)))
          have HF35 := Lib.hid (blk_below HF32.out (hb5.mono (Nat.le_refl _)))
          have HB36 := Lib.hid (HB33.out.trans (hb5.mono (by have := HB33.out.size; simp at this ⊢ <;> omega)))
          clear hb5 HB33 HF31 HF32
          have HF37 := Lib.hid (blk_alloc HF34.out (.cells #[.int .i64 lv2, .slice A3 n3 c3, .slice A4 n4 c4] 50 (0, 0)))
          have HF38 := Lib.hid (blk_alloc HF35.out (.cells #[.int .i64 lv2, .slice A3 n3 c3, .slice A4 n4 c4] 50 (0, 0)))
          have HF39 := Lib.hid (blk_new w5 (.cells #[.int .i64 lv2, .slice A3 n3 c3, .slice A4 n4 c4] 50 (0, 0)))
          have HB40 := Lib.hid (HB36.out.alloc HB36.out.size (.cells #[.int .i64 lv2, .slice A3 n3 c3, .slice A4 n4 c4] 50 (0, 0)))
          clear HB36
          have hc41 : (w5.alloc (.cells #[.int .i64 lv2, .slice A3 n3 c3, .slice A4 n4 c4] 50 (0, 0))).cell? ⟨w5.heap.size, 0, none⟩ = some (.int .i64 lv2) := by rw [cell_of_row _ _ _ _ _ _ HF39.out]; rfl
          have hc42 : (w5.alloc (.cells #[.int .i64 lv2, .slice A3 n3 c3, .slice A4 n4 c4] 50 (0, 0))).cell? ⟨w5.heap.size, 1, none⟩ = some (.slice A3 n3 c3) := by rw [cell_of_row _ _ _ _ _ _ HF39.out]; rfl
          have hc43 : (w5.alloc (.cells #[.int .i64 lv2, .slice A3 n3 c3, .slice A4 n4 c4] 50 (0, 0))).cell? ⟨w5.heap.size, 2, none⟩ = some (.slice A4 n4 c4) := by rw [cell_of_row _ _ _ _ _ _ HF39.out]; rfl
          go_wp2_with fail
          clear hc41 hc42 hc43
          refine (HC2.out (w5.alloc (.cells #[.int .i64 lv2, .slice A3 n3 c3, .slice A4 n4 c4] 50 (0, 0))) (rd_later HRS.out ((Below.refl _ _).alloc (Nat.le_refl _) _))).mono ?_
          rintro e w6 ⟨rfl, hb6⟩
          have HF44 := Lib.hid (blk_below HF37.out hb6)
          have HF45 := Lib.hid (blk_below HF38.out hb6)
          have HF46 := Lib.hid (blk_below HF39.out hb6)
          have HB47 := Lib.hid (HB40.out.trans (hb6.mono HB40.out.size))
          clear hb6 HB40 HF37 HF34 HF38 HF35 HF39
          go_wp2_with fail
          refine (awake19 w6).mono ?_
          rintro e w7 ⟨rfl, hb7⟩
          have HF48 := Lib.hid (blk_below HF44.out hb7)
          have HF49 := Lib.hid (blk_below HF45.out hb7)
          have HF50 := Lib.hid (blk_below HF46.out hb7)
          have HB51 := Lib.hid (HB47.out.trans (hb7.mono HB47.out.size))
          clear hb7 HB47 HF44 HF45 HF46
          go_wp2_with fail
          go_ret
          exact ⟨rfl, HB51.out⟩
        · have hx : ∀ lv es cs, ¬ IsC S lv es cs := fun lv es cs k => hx ⟨lv, es, cs, k⟩
          have CS := Lib.hid (fun W : World => (CS1.out W).mono (takeCN hx))
          clear hx CS1
          have hc9 : w1.cell? ⟨w.heap.size, 0, none⟩ = some (.int .i64 lv) := by rw [cell_of_row _ _ _ _ _ _ HF7.out]; rfl
          have hc10 : w1.cell? ⟨w.heap.size, 1, none⟩ = some (.slice ea en ec) := by rw [cell_of_row _ _ _ _ _ _ HF7.out]; rfl
          have hc11 : w1.cell? ⟨w.heap.size, 2, none⟩ = some (.slice ca cn cc) := by rw [cell_of_row _ _ _ _ _ _ HF7.out]; rfl
          go_wp2_with fail
          clear hc9 hc10 hc11
          refine (HCP.out w1 (rd_later H.out HB8.out)).mono ?_
          rintro e w2 ⟨rfl, hb2⟩
          have HF12 := Lib.hid (blk_below HF7.out hb2)
          have HB13 := Lib.hid (HB8.out.trans (hb2.mono HB8.out.size))
          clear hb2 HB8 HF7
          go_wp2_with fail
          refine (CT.out w2).mono ?_
          rintro e w3 ⟨vE, vC, rfl, hoe, hoc, hb3, hz3⟩
          obtain ⟨A1, c1, hv1, hr1, _, _⟩ := hoe.rd enC_len
          obtain ⟨A2, c2, hv2, hr2, _, _⟩ := hoc.rd inC_len
          rw [LE.out] at hv1 hr1
          rw [LC.out] at hv2 hr2
          subst hv1 hv2
          have HRT := Lib.hid (show ChR w3 A1 A2 en cn es cs from ⟨hr1, hr2⟩)
          clear hr1 hr2 hoe hoc
          have HF14 := Lib.hid (blk_below HF12.out (hb3.mono (Nat.le_refl _)))
          have HB15 := Lib.hid (HB13.out.trans (hb3.mono (by have := HB13.out.size; simp at this ⊢ <;> omega)))
          clear hb3 HB13 HF12
          have hk16 : w.heap.size < w3.heap.size := lt_of_block HF14.out
          have HF17 := Lib.hid (blk_alloc HF14.out (.cells #[.int .i64 lv, .slice A1 en c1, .slice A2 cn c2] 50 (0, 0)))
          have HF18 := Lib.hid (blk_new w3 (.cells #[.int .i64 lv, .slice A1 en c1, .slice A2 cn c2] 50 (0, 0)))
          have HB19 := Lib.hid (HB15.out.alloc HB15.out.size (.cells #[.int .i64 lv, .slice A1 en c1, .slice A2 cn c2] 50 (0, 0)))
          clear HB15
          have hc20 : (w3.alloc (.cells #[.int .i64 lv, .slice A1 en c1, .slice A2 cn c2] 50 (0, 0))).cell? ⟨w.heap.size, 0, none⟩ = some (.int .i64 lv) := by rw [cell_of_row _ _ _ _ _ _ HF17.out]; rfl
          have hc21 : w3.cell? ⟨w.heap.size, 0, none⟩ = some (.int .i64 lv) := by rw [cell_of_row _ _ _ _ _ _ HF14.out]; rfl
          have hc22 : (w3.alloc (.cells #[.int .i64 lv, .slice A1 en c1, .slice A2 cn c2] 50 (0, 0))).cell? ⟨w.heap.size, 1, none⟩ = some (.slice ea en ec) := by rw [cell_of_row _ _ _ _ _ _ HF17.out]; rfl
          have hc23 : w3.cell? ⟨w.heap.size, 1, none⟩ = some (.slice ea en ec) := by rw [cell_of_row _ _ _ _ _ _ HF14.out]; rfl
          have hc24 : (w3.alloc (.cells #[.int .i64 lv, .slice A1 en c1, .slice A2 cn c2] 50 (0, 0))).cell? ⟨w.heap.size, 2, none⟩ = some (.slice ca cn cc) := by rw [cell_of_row _ _ _ _ _ _ HF17.out]; rfl
          have hc25 : w3.cell? ⟨w.heap.size, 2, none⟩ = some (.slice ca cn cc) := by rw [cell_of_row _ _ _ _ _ _ HF14.out]; rfl
          have hl26 : w.heap.size < w3.heap.size := lt_of_block HF14.out
          have hl27 : ¬ w.heap.size = w3.heap.size := by omega
          have hc28 : (w3.alloc (.cells #[.int .i64 lv, .slice A1 en c1, .slice A2 cn c2] 50 (0, 0))).cell? ⟨w3.heap.size, 0, none⟩ = some (.int .i64 lv) := by rw [cell_of_row _ _ _ _ _ _ HF18.out]; rfl
          have hc29 : (w3.alloc (.cells #[.int .i64 lv, .slice A1 en c1, .slice A2 cn c2] 50 (0, 0))).cell? ⟨w3.heap.size, 1, none⟩ = some (.slice A1 en c1) := by rw [cell_of_row _ _ _ _ _ _ HF18.out]; rfl
          have hc30 : (w3.alloc (.cells #[.int .i64 lv, .slice A1 en c1, .slice A2 cn c2] 50 (0, 0))).cell? ⟨w3.heap.size, 2, none⟩ = some (.slice A2 cn c2) := by rw [cell_of_row _ _ _ _ _ _ HF18.out]; rfl
          go_wp2_with fail
          clear hc20 hc21 hc22 hc23 hc24 hc25 hl26 hl27 hc28 hc29 hc30
          refine (rsame19_yes lv ea ca A1 A2 en ec cn cc c1 c2 es cs (w3.alloc (.cells #[.int .i64 lv, .slice A1 en c1, .slice A2 cn c2] 50 (0, 0))) (rd_later H.out HB19.out) (rd_later HRT.out ((Below.refl _ _).alloc (Nat.le_refl _) _)) hn' hm').mono ?_
          rintro e w4 ⟨rfl, hb4⟩
          have HF31 := Lib.hid (blk_below HF17.out hb4)
          have HF32 := Lib.hid (blk_below HF18.out hb4)
          have HB33 := Lib.hid (HB19.out.trans (hb4.mono HB19.out.size))
          clear hb4 HB19 HF17 HF14 HF18
          go_wp2_with fail
          refine (CS.out w4).mono ?_
          rintro e w5 ⟨rfl, hb5⟩
          have HF34 := Lib.hid (blk_below HF31.out hb5)
          have HF35 := Lib.hid (blk_below HF32.out hb5)
          have HB36 := Lib.hid (HB33.out.trans (hb5.mono HB33.out.size))
          clear hb5 HB33 HF31 HF32
          have HF37 := Lib.hid (blk_alloc HF34.out (.cells #[.int .i64 0, .slice none 0 0, .slice none 0 0] 50 (0, 0)))
          have HF38 := Lib.hid (blk_alloc HF35.out (.cells #[.int .i64 0, .slice none 0 0, .slice none 0 0] 50 (0, 0)))
          have HF39 := Lib.hid (blk_new w5 (.cells #[.int .i64 0, .slice none 0 0, .slice none 0 0] 50 (0, 0)))
          have HB40 := Lib.hid (HB36.out.alloc HB36.out.size (.cells #[.int .i64 0, .slice none 0 0, .slice none 0 0] 50 (0, 0)))
          clear HB36
          go_wp2_with fail
          refine (awake19 (w5.alloc (.cells #[.int .i64 0, .slice none 0 0, .slice none 0 0] 50 (0, 0)))).mono ?_
          rintro e w6 ⟨rfl, hb6⟩
          have HF41 := Lib.hid (blk_below HF37.out hb6)
          have HF42 := Lib.hid (blk_below HF38.out hb6)
          have HF43 := Lib.hid (blk_below HF39.out hb6)
          have HB44 := Lib.hid (HB40.out.trans (hb6.mono HB40.out.size))
          clear hb6 HB40 HF37 HF34 HF38 HF35 HF39
          go_wp2_with fail
          go_ret
          exact ⟨rfl, HB44.out⟩
      · have HV := Lib.hid (show cputV lv es cs = .tuple #[.string ⟨#[]⟩, .int .i64 (chW lv es cs)] by unfold cputV; rw [if_neg hz])
        rw [HV.out] at HCP
        have hzz : (chW lv es cs == 0) = false := by simpa using hz
        generalize chW lv es cs = z at HCP hzz
        clear hz HV
        by_cases hx : ∃ lv es cs, IsC S lv es cs
        · obtain ⟨lv2, es2, cs2, hc2⟩ := hx
          have CS := Lib.hid (fun W : World => (CS1.out W).mono (takeCY hc2 (fun _ _ _ k => hc2.one k)))
          have HV2 := Lib.hid (show cputV lv2 es2 cs2 = .tuple #[.string S, .int .i64 0] by unfold cputV; rw [if_pos hc2.1]; rw [show (⟨(putC lv2 es2 cs2).toArray⟩ : ByteArray) = S from ba_ext hc2.2])
          obtain ⟨_, _, y1, y2, y3⟩ := hc2.facts
          have hy : cs2.length ≤ 8 := by
            by_cases hl : lv2 = 0
            · rw [y2 hl]; simp
            · rw [(y3 hl).2.1]; exact y1
          have hse : (S.toList == S.toList) = true := by simp
          have hsn : (S.toList != S.toList) = false := by simp
          clear hc2 y2 y3 CS1
          have hc9 : w1.cell? ⟨w.heap.size, 0, none⟩ = some (.int .i64 lv) := by rw [cell_of_row _ _ _ _ _ _ HF7.out]; rfl
          have hc10 : w1.cell? ⟨w.heap.size, 1, none⟩ = some (.slice ea en ec) := by rw [cell_of_row _ _ _ _ _ _ HF7.out]; rfl
          have hc11 : w1.cell? ⟨w.heap.size, 2, none⟩ = some (.slice ca cn cc) := by rw [cell_of_row _ _ _ _ _ _ HF7.out]; rfl
          go_wp2_with fail
          clear hc9 hc10 hc11
          refine (HCP.out w1 (rd_later H.out HB8.out)).mono ?_
          rintro e w2 ⟨rfl, hb2⟩
          have HF12 := Lib.hid (blk_below HF7.out hb2)
          have HB13 := Lib.hid (HB8.out.trans (hb2.mono HB8.out.size))
          clear hb2 HB8 HF7
          go_wp2_with fail
          refine (CS.out w2).mono ?_
          rintro e w3 ⟨vE, vC, rfl, hoe, hoc, hb3, hz3⟩
          obtain ⟨A3, c3, hv1, hr1, _, _⟩ := hoe.rd enC_len
          obtain ⟨A4, c4, hv2, hr2, _, _⟩ := hoc.rd inC_len
          obtain ⟨n3, hn3⟩ : ∃ n, n = es2.length := ⟨_, rfl⟩
          obtain ⟨n4, hn4⟩ : ∃ n, n = cs2.length := ⟨_, rfl⟩
          rw [← hn3] at hv1 hr1
          rw [← hn4] at hv2 hr2
          subst hv1 hv2
          have HRS := Lib.hid (show ChR w3 A3 A4 n3 n4 es2 cs2 from ⟨hr1, hr2⟩)
          have hn3' : (n3 : Int) ≤ 9223372036854775807 := by omega
          have hn4' : (n4 : Int) ≤ 9223372036854775807 := by omega
          have HC2 := Lib.hid (fun (W : World) (g : ChR W A3 A4 n3 n4 es2 cs2) => cput_any lv2 A3 A4 n3 c3 n4 c4 es2 cs2 W g hn3' hn4')
          rw [HV2.out] at HC2
          clear hr1 hr2 hoe hoc hn3 hn4
          have HF14 := Lib.hid (blk_below HF12.out (hb3.mono (Nat.le_refl _)))
          have HB15 := Lib.hid (HB13.out.trans (hb3.mono (by have := HB13.out.size; simp at this ⊢ <;> omega)))
          clear hb3 HB13 HF12
          have HF16 := Lib.hid (blk_alloc HF14.out (.cells #[.int .i64 lv2, .slice A3 n3 c3, .slice A4 n4 c4] 50 (0, 0)))
          have HF17 := Lib.hid (blk_new w3 (.cells #[.int .i64 lv2, .slice A3 n3 c3, .slice A4 n4 c4] 50 (0, 0)))
          have HB18 := Lib.hid (HB15.out.alloc HB15.out.size (.cells #[.int .i64 lv2, .slice A3 n3 c3, .slice A4 n4 c4] 50 (0, 0)))
          clear HB15
          have hc19 : (w3.alloc (.cells #[.int .i64 lv2, .slice A3 n3 c3, .slice A4 n4 c4] 50 (0, 0))).cell? ⟨w3.heap.size, 0, none⟩ = some (.int .i64 lv2) := by rw [cell_of_row _ _ _ _ _ _ HF17.out]; rfl
          have hc20 : (w3.alloc (.cells #[.int .i64 lv2, .slice A3 n3 c3, .slice A4 n4 c4] 50 (0, 0))).cell? ⟨w3.heap.size, 1, none⟩ = some (.slice A3 n3 c3) := by rw [cell_of_row _ _ _ _ _ _ HF17.out]; rfl
          have hc21 : (w3.alloc (.cells #[.int .i64 lv2, .slice A3 n3 c3, .slice A4 n4 c4] 50 (0, 0))).cell? ⟨w3.heap.size, 2, none⟩ = some (.slice A4 n4 c4) := by rw [cell_of_row _ _ _ _ _ _ HF17.out]; rfl
          go_wp2_with fail
          clear hc19 hc20 hc21
          refine (HC2.out (w3.alloc (.cells #[.int .i64 lv2, .slice A3 n3 c3, .slice A4 n4 c4] 50 (0, 0))) (rd_later HRS.out ((Below.refl _ _).alloc (Nat.le_refl _) _))).mono ?_
          rintro e w4 ⟨rfl, hb4⟩
          have HF22 := Lib.hid (blk_below HF16.out hb4)
          have HF23 := Lib.hid (blk_below HF17.out hb4)
          have HB24 := Lib.hid (HB18.out.trans (hb4.mono HB18.out.size))
          clear hb4 HB18 HF16 HF14 HF17
          go_wp2_with fail
          refine (awake19 w4).mono ?_
          rintro e w5 ⟨rfl, hb5⟩
          have HF25 := Lib.hid (blk_below HF22.out hb5)
          have HF26 := Lib.hid (blk_below HF23.out hb5)
          have HB27 := Lib.hid (HB24.out.trans (hb5.mono HB24.out.size))
          clear hb5 HB24 HF22 HF23
          go_wp2_with fail
          go_ret
          exact ⟨rfl, HB27.out⟩
        · have hx : ∀ lv es cs, ¬ IsC S lv es cs := fun lv es cs k => hx ⟨lv, es, cs, k⟩
          have CS := Lib.hid (fun W : World => (CS1.out W).mono (takeCN hx))
          clear hx CS1
          have hc9 : w1.cell? ⟨w.heap.size, 0, none⟩ = some (.int .i64 lv) := by rw [cell_of_row _ _ _ _ _ _ HF7.out]; rfl
          have hc10 : w1.cell? ⟨w.heap.size, 1, none⟩ = some (.slice ea en ec) := by rw [cell_of_row _ _ _ _ _ _ HF7.out]; rfl
          have hc11 : w1.cell? ⟨w.heap.size, 2, none⟩ = some (.slice ca cn cc) := by rw [cell_of_row _ _ _ _ _ _ HF7.out]; rfl
          go_wp2_with fail
          clear hc9 hc10 hc11
          refine (HCP.out w1 (rd_later H.out HB8.out)).mono ?_
          rintro e w2 ⟨rfl, hb2⟩
          have HF12 := Lib.hid (blk_below HF7.out hb2)
          have HB13 := Lib.hid (HB8.out.trans (hb2.mono HB8.out.size))
          clear hb2 HB8 HF7
          go_wp2_with fail
          refine (CS.out w2).mono ?_
          rintro e w3 ⟨rfl, hb3⟩
          have HF14 := Lib.hid (blk_below HF12.out hb3)
          have HB15 := Lib.hid (HB13.out.trans (hb3.mono HB13.out.size))
          clear hb3 HB13 HF12
          have HF16 := Lib.hid (blk_alloc HF14.out (.cells #[.int .i64 0, .slice none 0 0, .slice none 0 0] 50 (0, 0)))
          have HF17 := Lib.hid (blk_new w3 (.cells #[.int .i64 0, .slice none 0 0, .slice none 0 0] 50 (0, 0)))
          have HB18 := Lib.hid (HB15.out.alloc HB15.out.size (.cells #[.int .i64 0, .slice none 0 0, .slice none 0 0] 50 (0, 0)))
          clear HB15
          go_wp2_with fail
          refine (awake19 (w3.alloc (.cells #[.int .i64 0, .slice none 0 0, .slice none 0 0] 50 (0, 0)))).mono ?_
          rintro e w4 ⟨rfl, hb4⟩
          have HF19 := Lib.hid (blk_below HF16.out hb4)
          have HF20 := Lib.hid (blk_below HF17.out hb4)
          have HB21 := Lib.hid (HB18.out.trans (hb4.mono HB18.out.size))
          clear hb4 HB18 HF16 HF14 HF17
          go_wp2_with fail
          go_ret
          exact ⟨rfl, HB21.out⟩
end Go.Proofs.Ythndcgaelcilnaa.LChunkBack
