/- The document's Put of layer 19 over this translation. Condition: slices of at most 2 to the 62nd. -/
import Derived.Test.YtdjjabjegmbmaaaMg
namespace Go.Proofs.Ytdjjabjegmbmaaa
open Go.RowKit Vi Zp

def rputS (lv : Int) (es : List En) (cs : List Int) : ByteArray := if chW lv es cs = 0 then ⟨(putC lv es cs).toArray⟩ else ⟨#[]⟩
set_option maxRecDepth 100000 in
set_option maxHeartbeats 8000000 in
theorem rput19_any (lv : Int) (ea ca : Option Addr) (en ec cn cc : Nat) (es : List En) (cs : List Int) (w : World) (h : ChR w ea ca en cn es cs) (hn : (en : Int) ≤ 9223372036854775807) (hm : (cn : Int) ≤ 9223372036854775807) :
    Calls Try.prog 83 #[.agg #[.int .i64 lv, .slice ea en ec, .slice ca cn cc]] w fun e w' => e = .returned (.string (rputS lv es cs)) ∧ Below w.heap.size w w' := by
  have H := Lib.hid h
  have LE := Lib.hid h.e.1
  have LC := Lib.hid h.c.1
  have HCK := Lib.hid (fun (W : World) (g : ChR W ea ca en cn es cs) => rwrong_any lv ea ca en ec cn cc es cs W g hn hm)
  clear h
  by_cases hz : chW lv es cs = 0
  · have HV := Lib.hid (show (⟨(putC lv es cs).toArray⟩ : ByteArray) = rputS lv es cs by unfold rputS; rw [if_pos hz])
    obtain ⟨hfit, hok⟩ := chW_zero hz
    obtain ⟨f1, f2, f3, f4, f5⟩ := fitB_yes hfit
    rw [hz] at HCK
    have HOK := Lib.hid hok
    have HF5 := Lib.hid f5
    have hen : en ≤ 8 := by rw [← LE.out]; exact f3
    have HHL := Lib.hid (headC_len lv en)
    have HKL := Lib.hid (putK_len lv es cs hok)
    obtain ⟨N, hN⟩ : ∃ N : ByteArray, N = ⟨(put en).toArray⟩ := ⟨_, rfl⟩
    have PN := Lib.hid (fun W : World => refPutNum_any (en : Int) W (by omega))
    rw [Int.toNat_natCast, ← hN] at PN
    have HN := Lib.hid hN
    have hNs : N.size ≤ 10 := by have := put_len en; rw [hN, bytes_sizeM]; exact this
    clear hz hfit hok f3 f4 f5 hN
    by_cases h0 : lv = 0
    · have HLV := Lib.hid h0
      have hlz : decide (0 < lv) = false := decide_eq_false (by omega)
      obtain ⟨A0, hA0⟩ : ∃ A : ByteArray, A = ⟨#[76]⟩ ++ N := ⟨_, rfl⟩
      have q0 : ∀ W, (Op.stringOp .add ⟨#[76]⟩ N).run Try.prog W = .ok (.string A0) W := fun W => by rw [hA0]; exact run_string_add_sum W _ _ (by have : (⟨#[76]⟩ : ByteArray).size = 1 := rfl; omega)
      have HA0 := Lib.hid (show A0 = ⟨(headC lv en ++ putK lv es cs 0).toArray⟩ by
        apply ba_ext
        rw [hA0, ba_app, HN.out]
        unfold headC putK
        rw [if_pos h0, List.append_nil])
      clear h0 hA0
      have HB1 := Lib.hid (Below.refl w.heap.size w)
      go_enter Try.func83, Try.ntmps83
      have HF2 := Lib.hid (blk_new w (.cells #[.int .i64 lv, .slice ea en ec, .slice ca cn cc] 26 (0, 0)))
      have HB3 := Lib.hid (HB1.out.alloc HB1.out.size (.cells #[.int .i64 lv, .slice ea en ec, .slice ca cn cc] 26 (0, 0)))
      clear HB1
      have hc4 : (w.alloc (.cells #[.int .i64 lv, .slice ea en ec, .slice ca cn cc] 26 (0, 0))).cell? ⟨w.heap.size, 0, none⟩ = some (.int .i64 lv) := by rw [cell_of_row _ _ _ _ _ _ HF2.out]; rfl
      have hc5 : (w.alloc (.cells #[.int .i64 lv, .slice ea en ec, .slice ca cn cc] 26 (0, 0))).cell? ⟨w.heap.size, 1, none⟩ = some (.slice ea en ec) := by rw [cell_of_row _ _ _ _ _ _ HF2.out]; rfl
      have hc6 : (w.alloc (.cells #[.int .i64 lv, .slice ea en ec, .slice ca cn cc] 26 (0, 0))).cell? ⟨w.heap.size, 2, none⟩ = some (.slice ca cn cc) := by rw [cell_of_row _ _ _ _ _ _ HF2.out]; rfl
      go_wp2_with fail
      clear hc4 hc5 hc6
      refine (HCK.out (w.alloc (.cells #[.int .i64 lv, .slice ea en ec, .slice ca cn cc] 26 (0, 0))) (H.out.below HB3.out)).mono ?_
      rintro e w1 ⟨rfl, hb1⟩
      have HF7 := Lib.hid (blk_below HF2.out hb1)
      have HB8 := Lib.hid (HB3.out.trans (hb1.mono HB3.out.size))
      clear hb1 HB3 HF2
      have hc9 : w1.cell? ⟨w.heap.size, 0, none⟩ = some (.int .i64 lv) := by rw [cell_of_row _ _ _ _ _ _ HF7.out]; rfl
      have hc10 : w1.cell? ⟨w.heap.size, 1, none⟩ = some (.slice ea en ec) := by rw [cell_of_row _ _ _ _ _ _ HF7.out]; rfl
      have hc11 : w1.cell? ⟨w.heap.size, 2, none⟩ = some (.slice ca cn cc) := by rw [cell_of_row _ _ _ _ _ _ HF7.out]; rfl
      go_wp2_with fail
      clear hc9 hc10 hc11
      refine (PN.out w1).mono ?_
      rintro e w2 ⟨rfl, hb2⟩
      have HF12 := Lib.hid (blk_below HF7.out hb2)
      have HB13 := Lib.hid (HB8.out.trans (hb2.mono HB8.out.size))
      clear hb2 HB8 HF7
      go_wp2_with fail
      go_loopw [3, 4] (fun s i wr => ∃ (k : Nat) (acc : ByteArray), i = .int .i64 (k : Int) ∧ s = .string acc ∧ k ≤ en ∧ acc = ⟨(headC lv en ++ putK lv es cs k).toArray⟩ ∧ wr.heap[w.heap.size]? = some (.cells #[.int .i64 lv, .slice ea en ec, .slice ca cn cc] 26 (0, 0)) ∧ Below w.heap.size w wr) (fun _ i _ => en - (intOf i).toNat)
      case atStart => exact ⟨0, A0, rfl, rfl, Nat.zero_le _, HA0.out, HF12.out, HB13.out⟩
      case round =>
        obtain ⟨k, acc, rfl, rfl, hk, hacc, hbx, hb⟩ := hrel
        have HAC := Lib.hid hacc
        have hasz : acc.size ≤ 20000 := by
          have h1 := HHL.out
          have h2 := HKL.out k (by rw [LE.out]; exact hk)
          rw [hacc, bytes_sizeM, List.length_append]; omega
        have HC := Lib.hid hbx
        have HB := Lib.hid hb
        have hCw := lt_of_block hbx
        clear hacc hbx hb
        by_cases hlt : k < en
        · have hd1 : decide ((k : Int) < (en : Int)) = true := decide_eq_true (by omega)
          obtain ⟨b, off, hl, rfl, hbb, hc⟩ := H.out.e.at hlt
          have hok := HOK.out es[k] (List.getElem_mem hl)
          have HGD := Lib.hid (getD_mem es k (⟨#[]⟩, ⟨#[]⟩) hl)
          obtain ⟨x, hx⟩ : ∃ x, es[k] = x := ⟨_, rfl⟩
          rw [hx] at hc HGD hok
          obtain ⟨s, v⟩ := x
          obtain ⟨s1', s2', s3'⟩ := okE_yes hok
          dsimp only at s1' s2' s3'
          have HE0 := Lib.hid (hc 0 _ rfl)
          have HE1 := Lib.hid (hc 1 _ rfl)
          clear hc hx hok
          have hi0 : (0 : Int) ≤ (k : Int) := by omega
          obtain ⟨T1, hT1⟩ : ∃ T1 : ByteArray, T1 = ⟨(put s.size).toArray⟩ ++ s := ⟨_, rfl⟩
          have PT1 := Lib.hid (fun W : World => refPutText_any s W (by omega))
          rw [← hT1] at PT1
          have hT1s : T1.size ≤ 80 := by have := put_len s.size; rw [hT1, ByteArray.size_append, bytes_sizeM]; omega
          have HT1 := Lib.hid (show T1.data.toList = put s.size ++ s.data.toList by rw [hT1, ba_app])
          obtain ⟨r1, hr1⟩ : ∃ r : ByteArray, r = acc ++ T1 := ⟨_, rfl⟩
          have q1 : ∀ W, (Op.stringOp .add acc T1).run Try.prog W = .ok (.string r1) W := fun W => by rw [hr1]; exact run_string_add_sum W _ _ (by omega)
          have hr1s : r1.size ≤ 20080 := by rw [hr1, ByteArray.size_append]; omega
          have HR1 := Lib.hid hr1
          clear hT1 hr1
          have hc101 : wr.cell? ⟨w.heap.size, 0, none⟩ = some (.int .i64 lv) := by rw [cell_of_row _ _ _ _ _ _ HC.out]; rfl
          have hc102 : wr.cell? ⟨w.heap.size, 1, none⟩ = some (.slice (some ⟨b, off, none⟩) en ec) := by rw [cell_of_row _ _ _ _ _ _ HC.out]; rfl
          have hc103 : wr.cell? ⟨w.heap.size, 2, none⟩ = some (.slice ca cn cc) := by rw [cell_of_row _ _ _ _ _ _ HC.out]; rfl
          have hc104 : wr.cell? ⟨b, off + k * 2, none⟩ = some (.string s) := (HB.out.cell (p := ⟨b, _, none⟩) hbb).trans HE0.out
          have hc105 : wr.cell? ⟨b, off + k * 2 + 1, none⟩ = some (.string v) := (HB.out.cell (p := ⟨b, _, none⟩) hbb).trans HE1.out
          go_wp2_with fail
          clear hc101 hc102 hc103 hc104 hc105
          refine (PT1.out wr).mono ?_
          rintro e w11 ⟨rfl, hb11⟩
          have HF106 := Lib.hid (blk_below HC.out hb11)
          have HB107 := Lib.hid (HB.out.trans (hb11.mono HB.out.size))
          clear hb11 HB HC
          obtain ⟨T2, hT2⟩ : ∃ T2 : ByteArray, T2 = ⟨(put v.size).toArray⟩ ++ v := ⟨_, rfl⟩
          have PT2 := Lib.hid (fun W : World => refPutText_any v W (by omega))
          rw [← hT2] at PT2
          have hT2s : T2.size ≤ 2060 := by have := put_len v.size; rw [hT2, ByteArray.size_append, bytes_sizeM]; omega
          obtain ⟨r2, hr2⟩ : ∃ r : ByteArray, r = r1 ++ T2 := ⟨_, rfl⟩
          have q2 : ∀ W, (Op.stringOp .add r1 T2).run Try.prog W = .ok (.string r2) W := fun W => by rw [hr2]; exact run_string_add_sum W _ _ (by omega)
          have HEE := Lib.hid (show r2 = ⟨(headC lv en ++ putK lv es cs (k + 1)).toArray⟩ by
            apply ba_ext
            rw [hr2, ba_app, HR1.out, ba_app, HAC.out, HT1.out, hT2, ba_app]
            show _ = headC lv en ++ (putK lv es cs k ++ putE lv (es.getD k (⟨#[]⟩, ⟨#[]⟩)) (cs.getD k 0))
            rw [HGD.out]; unfold putE; rw [if_pos HLV.out]; simp only [List.append_assoc])
          clear hT2 hr2
          have hc108 : w11.cell? ⟨w.heap.size, 0, none⟩ = some (.int .i64 lv) := by rw [cell_of_row _ _ _ _ _ _ HF106.out]; rfl
          have hc109 : w11.cell? ⟨w.heap.size, 1, none⟩ = some (.slice (some ⟨b, off, none⟩) en ec) := by rw [cell_of_row _ _ _ _ _ _ HF106.out]; rfl
          have hc110 : w11.cell? ⟨w.heap.size, 2, none⟩ = some (.slice ca cn cc) := by rw [cell_of_row _ _ _ _ _ _ HF106.out]; rfl
          have hc111 : w11.cell? ⟨b, off + k * 2, none⟩ = some (.string s) := (HB107.out.cell (p := ⟨b, _, none⟩) hbb).trans HE0.out
          have hc112 : w11.cell? ⟨b, off + k * 2 + 1, none⟩ = some (.string v) := (HB107.out.cell (p := ⟨b, _, none⟩) hbb).trans HE1.out
          go_wp2_with fail
          clear hc108 hc109 hc110 hc111 hc112
          refine (PT2.out w11).mono ?_
          rintro e w12 ⟨rfl, hb12⟩
          have HF113 := Lib.hid (blk_below HF106.out hb12)
          have HB114 := Lib.hid (HB107.out.trans (hb12.mono HB107.out.size))
          clear hb12 HB107 HF106
          go_wp2_with fail
          go_roundw
          case rel => exact ⟨k + 1, _, by go_num, rfl, by omega, HEE.out, HF113.out, HB114.out⟩
          case measure => simp [intOf] <;> omega
        · obtain rfl : k = en := by omega
          have hd1 : decide ((k : Int) < (k : Int)) = false := decide_eq_false (by omega)
          have HF := Lib.hid (show acc = rputS lv es cs by rw [← HV.out, HAC.out]; unfold putC; rw [LE.out])
          have hc101 : wr.cell? ⟨w.heap.size, 0, none⟩ = some (.int .i64 lv) := by rw [cell_of_row _ _ _ _ _ _ HC.out]; rfl
          have hc102 : wr.cell? ⟨w.heap.size, 1, none⟩ = some (.slice ea k ec) := by rw [cell_of_row _ _ _ _ _ _ HC.out]; rfl
          have hc103 : wr.cell? ⟨w.heap.size, 2, none⟩ = some (.slice ca cn cc) := by rw [cell_of_row _ _ _ _ _ _ HC.out]; rfl
          go_wp2_with fail
          go_ret
          exact ⟨by rw [← HF.out]; rfl, HB.out⟩
    · have HLV := Lib.hid h0
      have hlz : decide (0 < lv) = true := decide_eq_true (by omega)
      obtain ⟨L1, hL1⟩ : ∃ L1 : ByteArray, L1 = ⟨(put lv.toNat).toArray⟩ := ⟨_, rfl⟩
      have PL := Lib.hid (fun W : World => refPutNum_any lv W (by omega))
      rw [← hL1] at PL
      have hL1s : L1.size ≤ 10 := by have := put_len lv.toNat; rw [hL1, bytes_sizeM]; exact this
      obtain ⟨L0, hL0⟩ : ∃ L0 : ByteArray, L0 = ⟨#[73]⟩ ++ L1 := ⟨_, rfl⟩
      have hL0s : L0.size ≤ 11 := by rw [hL0, ByteArray.size_append]; have : (⟨#[73]⟩ : ByteArray).size = 1 := rfl; omega
      have q0 : ∀ W, (Op.stringOp .add ⟨#[73]⟩ L1).run Try.prog W = .ok (.string L0) W := fun W => by rw [hL0]; exact run_string_add_sum W _ _ (by have : (⟨#[73]⟩ : ByteArray).size = 1 := rfl; omega)
      obtain ⟨A0, hA0⟩ : ∃ A : ByteArray, A = L0 ++ N := ⟨_, rfl⟩
      have q00 : ∀ W, (Op.stringOp .add L0 N).run Try.prog W = .ok (.string A0) W := fun W => by rw [hA0]; exact run_string_add_sum W _ _ (by omega)
      have HA0 := Lib.hid (show A0 = ⟨(headC lv en ++ putK lv es cs 0).toArray⟩ by
        apply ba_ext
        rw [hA0, ba_app, HN.out, hL0, ba_app, hL1]
        unfold headC putK
        rw [if_neg h0, List.append_nil]; rfl)
      clear h0 hL0 hL1 hA0
      have HB1 := Lib.hid (Below.refl w.heap.size w)
      go_enter Try.func83, Try.ntmps83
      have HF2 := Lib.hid (blk_new w (.cells #[.int .i64 lv, .slice ea en ec, .slice ca cn cc] 26 (0, 0)))
      have HB3 := Lib.hid (HB1.out.alloc HB1.out.size (.cells #[.int .i64 lv, .slice ea en ec, .slice ca cn cc] 26 (0, 0)))
      clear HB1
      have hc4 : (w.alloc (.cells #[.int .i64 lv, .slice ea en ec, .slice ca cn cc] 26 (0, 0))).cell? ⟨w.heap.size, 0, none⟩ = some (.int .i64 lv) := by rw [cell_of_row _ _ _ _ _ _ HF2.out]; rfl
      have hc5 : (w.alloc (.cells #[.int .i64 lv, .slice ea en ec, .slice ca cn cc] 26 (0, 0))).cell? ⟨w.heap.size, 1, none⟩ = some (.slice ea en ec) := by rw [cell_of_row _ _ _ _ _ _ HF2.out]; rfl
      have hc6 : (w.alloc (.cells #[.int .i64 lv, .slice ea en ec, .slice ca cn cc] 26 (0, 0))).cell? ⟨w.heap.size, 2, none⟩ = some (.slice ca cn cc) := by rw [cell_of_row _ _ _ _ _ _ HF2.out]; rfl
      go_wp2_with fail
      clear hc4 hc5 hc6
      refine (HCK.out (w.alloc (.cells #[.int .i64 lv, .slice ea en ec, .slice ca cn cc] 26 (0, 0))) (H.out.below HB3.out)).mono ?_
      rintro e w1 ⟨rfl, hb1⟩
      have HF7 := Lib.hid (blk_below HF2.out hb1)
      have HB8 := Lib.hid (HB3.out.trans (hb1.mono HB3.out.size))
      clear hb1 HB3 HF2
      have hc9 : w1.cell? ⟨w.heap.size, 0, none⟩ = some (.int .i64 lv) := by rw [cell_of_row _ _ _ _ _ _ HF7.out]; rfl
      have hc10 : w1.cell? ⟨w.heap.size, 1, none⟩ = some (.slice ea en ec) := by rw [cell_of_row _ _ _ _ _ _ HF7.out]; rfl
      have hc11 : w1.cell? ⟨w.heap.size, 2, none⟩ = some (.slice ca cn cc) := by rw [cell_of_row _ _ _ _ _ _ HF7.out]; rfl
      go_wp2_with fail
      clear hc9 hc10 hc11
      refine (PL.out w1).mono ?_
      rintro e w2 ⟨rfl, hb2⟩
      have HF12 := Lib.hid (blk_below HF7.out hb2)
      have HB13 := Lib.hid (HB8.out.trans (hb2.mono HB8.out.size))
      clear hb2 HB8 HF7
      have hc14 : w2.cell? ⟨w.heap.size, 0, none⟩ = some (.int .i64 lv) := by rw [cell_of_row _ _ _ _ _ _ HF12.out]; rfl
      have hc15 : w2.cell? ⟨w.heap.size, 1, none⟩ = some (.slice ea en ec) := by rw [cell_of_row _ _ _ _ _ _ HF12.out]; rfl
      have hc16 : w2.cell? ⟨w.heap.size, 2, none⟩ = some (.slice ca cn cc) := by rw [cell_of_row _ _ _ _ _ _ HF12.out]; rfl
      go_wp2_with fail
      clear hc14 hc15 hc16
      refine (PN.out w2).mono ?_
      rintro e w3 ⟨rfl, hb3⟩
      have HF17 := Lib.hid (blk_below HF12.out hb3)
      have HB18 := Lib.hid (HB13.out.trans (hb3.mono HB13.out.size))
      clear hb3 HB13 HF12
      go_wp2_with fail
      go_loopw [3, 4] (fun s i wr => ∃ (k : Nat) (acc : ByteArray), i = .int .i64 (k : Int) ∧ s = .string acc ∧ k ≤ en ∧ acc = ⟨(headC lv en ++ putK lv es cs k).toArray⟩ ∧ wr.heap[w.heap.size]? = some (.cells #[.int .i64 lv, .slice ea en ec, .slice ca cn cc] 26 (0, 0)) ∧ Below w.heap.size w wr) (fun _ i _ => en - (intOf i).toNat)
      case atStart => exact ⟨0, A0, rfl, rfl, Nat.zero_le _, HA0.out, HF17.out, HB18.out⟩
      case round =>
        obtain ⟨k, acc, rfl, rfl, hk, hacc, hbx, hb⟩ := hrel
        have HAC := Lib.hid hacc
        have hasz : acc.size ≤ 20000 := by
          have h1 := HHL.out
          have h2 := HKL.out k (by rw [LE.out]; exact hk)
          rw [hacc, bytes_sizeM, List.length_append]; omega
        have HC := Lib.hid hbx
        have HB := Lib.hid hb
        have hCw := lt_of_block hbx
        clear hacc hbx hb
        by_cases hlt : k < en
        · have hd1 : decide ((k : Int) < (en : Int)) = true := decide_eq_true (by omega)
          obtain ⟨b, off, hl, rfl, hbb, hc⟩ := H.out.e.at hlt
          have hok := HOK.out es[k] (List.getElem_mem hl)
          have HGD := Lib.hid (getD_mem es k (⟨#[]⟩, ⟨#[]⟩) hl)
          obtain ⟨x, hx⟩ : ∃ x, es[k] = x := ⟨_, rfl⟩
          rw [hx] at hc HGD hok
          obtain ⟨s, v⟩ := x
          obtain ⟨s1', s2', s3'⟩ := okE_yes hok
          dsimp only at s1' s2' s3'
          have HE0 := Lib.hid (hc 0 _ rfl)
          have HE1 := Lib.hid (hc 1 _ rfl)
          clear hc hx hok
          have hi0 : (0 : Int) ≤ (k : Int) := by omega
          obtain ⟨T1, hT1⟩ : ∃ T1 : ByteArray, T1 = ⟨(put s.size).toArray⟩ ++ s := ⟨_, rfl⟩
          have PT1 := Lib.hid (fun W : World => refPutText_any s W (by omega))
          rw [← hT1] at PT1
          have hT1s : T1.size ≤ 80 := by have := put_len s.size; rw [hT1, ByteArray.size_append, bytes_sizeM]; omega
          have HT1 := Lib.hid (show T1.data.toList = put s.size ++ s.data.toList by rw [hT1, ba_app])
          obtain ⟨r1, hr1⟩ : ∃ r : ByteArray, r = acc ++ T1 := ⟨_, rfl⟩
          have q1 : ∀ W, (Op.stringOp .add acc T1).run Try.prog W = .ok (.string r1) W := fun W => by rw [hr1]; exact run_string_add_sum W _ _ (by omega)
          have hr1s : r1.size ≤ 20080 := by rw [hr1, ByteArray.size_append]; omega
          have HR1 := Lib.hid hr1
          clear hT1 hr1
          have hc101 : wr.cell? ⟨w.heap.size, 0, none⟩ = some (.int .i64 lv) := by rw [cell_of_row _ _ _ _ _ _ HC.out]; rfl
          have hc102 : wr.cell? ⟨w.heap.size, 1, none⟩ = some (.slice (some ⟨b, off, none⟩) en ec) := by rw [cell_of_row _ _ _ _ _ _ HC.out]; rfl
          have hc103 : wr.cell? ⟨w.heap.size, 2, none⟩ = some (.slice ca cn cc) := by rw [cell_of_row _ _ _ _ _ _ HC.out]; rfl
          have hc104 : wr.cell? ⟨b, off + k * 2, none⟩ = some (.string s) := (HB.out.cell (p := ⟨b, _, none⟩) hbb).trans HE0.out
          have hc105 : wr.cell? ⟨b, off + k * 2 + 1, none⟩ = some (.string v) := (HB.out.cell (p := ⟨b, _, none⟩) hbb).trans HE1.out
          go_wp2_with fail
          clear hc101 hc102 hc103 hc104 hc105
          refine (PT1.out wr).mono ?_
          rintro e w11 ⟨rfl, hb11⟩
          have HF106 := Lib.hid (blk_below HC.out hb11)
          have HB107 := Lib.hid (HB.out.trans (hb11.mono HB.out.size))
          clear hb11 HB HC
          obtain ⟨hne, hcl, hcn⟩ := HF5.out HLV.out
          have hkc : k < cs.length := by rw [hcl, LE.out]; exact hlt
          have hkn : k < cn := by rw [← LC.out]; exact hkc
          obtain ⟨b3, off3, hl3, rfl, hbb3, hc3⟩ := H.out.c.at hkn
          have hcm := hcn cs[k] (List.getElem_mem hkc)
          have HGC := Lib.hid (getD_mem cs k 0 hkc)
          obtain ⟨z, hz⟩ : ∃ z, cs[k] = z := ⟨_, rfl⟩
          rw [hz] at hc3 hcm HGC
          have a3 := hc3 0 _ rfl
          rw [Nat.add_zero, Nat.mul_one] at a3
          have HA3 := Lib.hid a3
          obtain ⟨hq1, hq2⟩ := hcm
          clear hc3 hz hcn hne hcl a3
          have hi1 : (k : Int) < (cn : Int) := by omega
          obtain ⟨N2, hN2⟩ : ∃ N2 : ByteArray, N2 = ⟨(put z.toNat).toArray⟩ := ⟨_, rfl⟩
          have PN2 := Lib.hid (fun W : World => refPutNum_any z W (by omega))
          rw [← hN2] at PN2
          have hNs2 : N2.size ≤ 10 := by have := put_len z.toNat; rw [hN2, bytes_sizeM]; exact this
          obtain ⟨r2, hr2⟩ : ∃ r : ByteArray, r = r1 ++ v := ⟨_, rfl⟩
          have q2 : ∀ W, (Op.stringOp .add r1 v).run Try.prog W = .ok (.string r2) W := fun W => by rw [hr2]; exact run_string_add_sum W _ _ (by omega)
          have hr2s : r2.size ≤ 30000 := by rw [hr2, ByteArray.size_append]; omega
          obtain ⟨r3, hr3⟩ : ∃ r : ByteArray, r = r2 ++ N2 := ⟨_, rfl⟩
          have q3 : ∀ W, (Op.stringOp .add r2 N2).run Try.prog W = .ok (.string r3) W := fun W => by rw [hr3]; exact run_string_add_sum W _ _ (by omega)
          have HEE := Lib.hid (show r3 = ⟨(headC lv en ++ putK lv es cs (k + 1)).toArray⟩ by
            apply ba_ext
            rw [hr3, ba_app, hr2, ba_app, HR1.out, ba_app, HAC.out, HT1.out, hN2]
            show _ = headC lv en ++ (putK lv es cs k ++ putE lv (es.getD k (⟨#[]⟩, ⟨#[]⟩)) (cs.getD k 0))
            rw [HGD.out, HGC.out]; unfold putE; rw [if_neg HLV.out]; simp only [List.append_assoc])
          clear hN2 hr2 hr3
          have hc108 : w11.cell? ⟨w.heap.size, 0, none⟩ = some (.int .i64 lv) := by rw [cell_of_row _ _ _ _ _ _ HF106.out]; rfl
          have hc109 : w11.cell? ⟨w.heap.size, 1, none⟩ = some (.slice (some ⟨b, off, none⟩) en ec) := by rw [cell_of_row _ _ _ _ _ _ HF106.out]; rfl
          have hc110 : w11.cell? ⟨w.heap.size, 2, none⟩ = some (.slice (some ⟨b3, off3, none⟩) cn cc) := by rw [cell_of_row _ _ _ _ _ _ HF106.out]; rfl
          have hc111 : w11.cell? ⟨b, off + k * 2, none⟩ = some (.string s) := (HB107.out.cell (p := ⟨b, _, none⟩) hbb).trans HE0.out
          have hc112 : w11.cell? ⟨b, off + k * 2 + 1, none⟩ = some (.string v) := (HB107.out.cell (p := ⟨b, _, none⟩) hbb).trans HE1.out
          have hc113 : w11.cell? ⟨b3, off3 + k, none⟩ = some (.int .i64 z) := (HB107.out.cell (p := ⟨b3, _, none⟩) hbb3).trans HA3.out
          go_wp2_with fail
          have hr114 := fun d os => cell_regrown hc108 d os
          have hr115 := fun d os => cell_regrown hc109 d os
          have hr116 := fun d os => cell_regrown hc110 d os
          have hr117 := fun d os => cell_regrown hc111 d os
          have hr118 := fun d os => cell_regrown hc112 d os
          have hr119 := fun d os => cell_regrown hc113 d os
          refine wp_region_quiet_below (by kernel_rfl) (by kernel_rfl) ?_
          repeat (any_goals (first | go_big_quiet_step ((go_at_call 141; exact Calls.regrown_of (PN2.out _))) | quiet_step ((go_at_call 141; exact Calls.regrown_of (PN2.out _)))))
          refine wpQuiet_nil ?_
          intro w12 hw12
          have hb12 := below_anyY hw12
          clear hw12 hr114 hr115 hr116 hr117 hr118 hr119
          clear hc108 hc109 hc110 hc111 hc112 hc113
          have HF120 := Lib.hid (blk_below HF106.out hb12)
          have HB121 := Lib.hid (HB107.out.trans (hb12.mono HB107.out.size))
          clear hb12 HB107 HF106
          go_wp2_with fail
          go_roundw
          case rel => exact ⟨k + 1, _, by go_num, rfl, by omega, HEE.out, HF120.out, HB121.out⟩
          case measure => simp [intOf] <;> omega
        · obtain rfl : k = en := by omega
          have hd1 : decide ((k : Int) < (k : Int)) = false := decide_eq_false (by omega)
          have HF := Lib.hid (show acc = rputS lv es cs by rw [← HV.out, HAC.out]; unfold putC; rw [LE.out])
          have hc101 : wr.cell? ⟨w.heap.size, 0, none⟩ = some (.int .i64 lv) := by rw [cell_of_row _ _ _ _ _ _ HC.out]; rfl
          have hc102 : wr.cell? ⟨w.heap.size, 1, none⟩ = some (.slice ea k ec) := by rw [cell_of_row _ _ _ _ _ _ HC.out]; rfl
          have hc103 : wr.cell? ⟨w.heap.size, 2, none⟩ = some (.slice ca cn cc) := by rw [cell_of_row _ _ _ _ _ _ HC.out]; rfl
          go_wp2_with fail
          go_ret
          exact ⟨by rw [← HF.out]; rfl, HB.out⟩
  · have HV := Lib.hid (show (⟨#[]⟩ : ByteArray) = rputS lv es cs by unfold rputS; rw [if_neg hz])
    have hzz : (chW lv es cs != 0) = true := by simpa using hz
    generalize chW lv es cs = z at HCK hzz
    clear hz
    have HB1 := Lib.hid (Below.refl w.heap.size w)
    go_enter Try.func83, Try.ntmps83
    have HF2 := Lib.hid (blk_new w (.cells #[.int .i64 lv, .slice ea en ec, .slice ca cn cc] 26 (0, 0)))
    have HB3 := Lib.hid (HB1.out.alloc HB1.out.size (.cells #[.int .i64 lv, .slice ea en ec, .slice ca cn cc] 26 (0, 0)))
    clear HB1
    have hc4 : (w.alloc (.cells #[.int .i64 lv, .slice ea en ec, .slice ca cn cc] 26 (0, 0))).cell? ⟨w.heap.size, 0, none⟩ = some (.int .i64 lv) := by rw [cell_of_row _ _ _ _ _ _ HF2.out]; rfl
    have hc5 : (w.alloc (.cells #[.int .i64 lv, .slice ea en ec, .slice ca cn cc] 26 (0, 0))).cell? ⟨w.heap.size, 1, none⟩ = some (.slice ea en ec) := by rw [cell_of_row _ _ _ _ _ _ HF2.out]; rfl
    have hc6 : (w.alloc (.cells #[.int .i64 lv, .slice ea en ec, .slice ca cn cc] 26 (0, 0))).cell? ⟨w.heap.size, 2, none⟩ = some (.slice ca cn cc) := by rw [cell_of_row _ _ _ _ _ _ HF2.out]; rfl
    go_wp2_with fail
    clear hc4 hc5 hc6
    refine (HCK.out (w.alloc (.cells #[.int .i64 lv, .slice ea en ec, .slice ca cn cc] 26 (0, 0))) (H.out.below HB3.out)).mono ?_
    rintro e w1 ⟨rfl, hb1⟩
    have HF7 := Lib.hid (blk_below HF2.out hb1)
    have HB8 := Lib.hid (HB3.out.trans (hb1.mono HB3.out.size))
    clear hb1 HB3 HF2
    go_wp2_with fail
    go_ret
    exact ⟨by rw [← HV.out]; rfl, HB8.out⟩
end Go.Proofs.Ytdjjabjegmbmaaa
