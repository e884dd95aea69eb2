/- Both sides' Total, and Last, of layer 19, over this translation. Condition: slices of at most 2 to the 62nd. -/
import Derived.Test.YtdjjabjegmbmaaaMb
import Derived.IntWalk
namespace Go.Proofs.Ytdjjabjegmbmaaa
open Go.RowKit Vi

def sumI (l : List Int) : Int := l.foldl (fun a c => wrap64 (a + c)) 0
theorem sumI_snoc (l : List Int) (k : Nat) (h : k < l.length) : wrap64 (sumI (l.take k) + l[k]) = sumI (l.take (k + 1)) := by
  rw [List.take_succ_eq_append_getElem h]
  unfold sumI
  rw [List.foldl_append]
  rfl
def totW (lv : Int) (en : Nat) (cs : List Int) : Int := if lv = 0 then (en : Int) else sumI cs
def lastK (es : List En) : ByteArray := ((es[es.length - 1]?).map (·.1)).getD ⟨#[]⟩
theorem lastK_take (es : List En) (k : Nat) (h : k < es.length) : lastK (es.take (k + 1)) = es[k].1 := by
  unfold lastK
  rw [List.length_take, show min (k + 1) es.length - 1 = k by omega, List.getElem?_take_of_lt (by omega), List.getElem?_eq_getElem h]
  rfl
set_option maxRecDepth 100000 in
set_option maxHeartbeats 1600000 in
theorem ctotal_any (lv : Int) (ea ca : Option Addr) (en ec cn cc : Nat) (es : List En) (cs : List Int) (w : World) (h : ChR w ea ca en cn es cs) (_ : (en : Int) ≤ 9223372036854775807) (hm : (cn : Int) ≤ 9223372036854775807) :
    Calls Try.prog 19 #[.agg #[.int .i64 lv, .slice ea en ec, .slice ca cn cc]] w fun e w' => e = .returned (.int .i64 (totW lv en cs)) ∧ Below w.heap.size w w' := by
  have H := Lib.hid h
  have LC := Lib.hid h.c.1
  clear h
  by_cases hl : lv = 0
  · have HV := Lib.hid (show totW lv en cs = (en : Int) by unfold totW; rw [if_pos hl])
    have d4 : (lv == 0) = true := by simpa using hl
    clear hl
    have HB1 := Lib.hid (Below.refl w.heap.size w)
    go_enter Try.func19, Try.ntmps19
    have HF2 := Lib.hid (blk_new w (.cells #[.int .i64 lv, .slice ea en ec, .slice ca cn cc] 26 (0, 0)))
    have HB3 := Lib.hid (HB1.out.alloc HB1.out.size (.cells #[.int .i64 lv, .slice ea en ec, .slice ca cn cc] 26 (0, 0)))
    clear HB1
    have hc4 : (w.alloc (.cells #[.int .i64 lv, .slice ea en ec, .slice ca cn cc] 26 (0, 0))).cell? ⟨w.heap.size, 0, none⟩ = some (.int .i64 lv) := by rw [cell_of_row _ _ _ _ _ _ HF2.out]; rfl
    have hc5 : (w.alloc (.cells #[.int .i64 lv, .slice ea en ec, .slice ca cn cc] 26 (0, 0))).cell? ⟨w.heap.size, 1, none⟩ = some (.slice ea en ec) := by rw [cell_of_row _ _ _ _ _ _ HF2.out]; rfl
    have hc6 : (w.alloc (.cells #[.int .i64 lv, .slice ea en ec, .slice ca cn cc] 26 (0, 0))).cell? ⟨w.heap.size, 2, none⟩ = some (.slice ca cn cc) := by rw [cell_of_row _ _ _ _ _ _ HF2.out]; rfl
    go_wp2_with fail
    go_ret
    exact ⟨by first | (rw [HV.out]; done) | (rw [HV.out]; rfl), HB3.out⟩
  · have HV := Lib.hid (show totW lv en cs = sumI cs by unfold totW; rw [if_neg hl])
    have d4 : (lv == 0) = false := by simpa using hl
    clear hl
    have HB1 := Lib.hid (Below.refl w.heap.size w)
    go_enter Try.func19, Try.ntmps19
    have HF2 := Lib.hid (blk_new w (.cells #[.int .i64 lv, .slice ea en ec, .slice ca cn cc] 26 (0, 0)))
    have HB3 := Lib.hid (HB1.out.alloc HB1.out.size (.cells #[.int .i64 lv, .slice ea en ec, .slice ca cn cc] 26 (0, 0)))
    clear HB1
    have hc4 : (w.alloc (.cells #[.int .i64 lv, .slice ea en ec, .slice ca cn cc] 26 (0, 0))).cell? ⟨w.heap.size, 0, none⟩ = some (.int .i64 lv) := by rw [cell_of_row _ _ _ _ _ _ HF2.out]; rfl
    have hc5 : (w.alloc (.cells #[.int .i64 lv, .slice ea en ec, .slice ca cn cc] 26 (0, 0))).cell? ⟨w.heap.size, 1, none⟩ = some (.slice ea en ec) := by rw [cell_of_row _ _ _ _ _ _ HF2.out]; rfl
    have hc6 : (w.alloc (.cells #[.int .i64 lv, .slice ea en ec, .slice ca cn cc] 26 (0, 0))).cell? ⟨w.heap.size, 2, none⟩ = some (.slice ca cn cc) := by rw [cell_of_row _ _ _ _ _ _ HF2.out]; rfl
    go_wp2_with fail
    go_loop [3, 15] (fun s i => ∃ (k : Nat) (m : Int), s = .int .i64 m ∧ i = .int .i64 (k : Int) ∧ k ≤ cn ∧ m = sumI (cs.take k)) (fun s i => cn - (intOf i).toNat)
    case atStart => exact ⟨0, 0, rfl, rfl, Nat.zero_le _, by simp [sumI]⟩
    case round =>
      obtain ⟨k, m, rfl, rfl, hk, hs⟩ := hrel
      have HS := Lib.hid hs
      clear hs
      by_cases hlt : k < cn
      · have hd1 : decide ((k : Int) < (cn : Int)) = true := decide_eq_true (by omega)
        obtain ⟨b, off, hl, rfl, hbb, hc⟩ := (H.out.below HB3.out).c.at hlt
        have HA := Lib.hid (sumI_snoc cs k hl)
        obtain ⟨x, hx⟩ : ∃ x, cs[k] = x := ⟨_, rfl⟩
        rw [hx] at hc HA
        have a0 := hc 0 _ rfl
        rw [Nat.add_zero, Nat.mul_one] at a0
        have hi0 : (0 : Int) ≤ (k : Int) := by omega
        clear hc hx
        go_wp2_with fail
        go_round
        case rel => exact ⟨k + 1, _, rfl, by go_num, by omega, by rw [HS.out]; exact HA.out⟩
        case measure => simp [intOf] <;> omega
      · have hd1 : decide ((k : Int) < (cn : Int)) = false := decide_eq_false (by omega)
        have HR := Lib.hid (show m = sumI cs by rw [HS.out, List.take_of_length_le (by rw [LC.out]; omega)])
        go_wp2_with fail
        go_ret
        exact ⟨by first | (rw [HV.out, HR.out]; done) | (rw [HV.out, HR.out]; rfl), HB3.out⟩
set_option maxRecDepth 100000 in
set_option maxHeartbeats 1600000 in
theorem rtotal_any (lv : Int) (ea ca : Option Addr) (en ec cn cc : Nat) (es : List En) (cs : List Int) (w : World) (h : ChR w ea ca en cn es cs) (_ : (en : Int) ≤ 9223372036854775807) (hm : (cn : Int) ≤ 9223372036854775807) :
    Calls Try.prog 18 #[.agg #[.int .i64 lv, .slice ea en ec, .slice ca cn cc]] w fun e w' => e = .returned (.int .i64 (totW lv en cs)) ∧ Below w.heap.size w w' := by
  have H := Lib.hid h
  have LC := Lib.hid h.c.1
  clear h
  by_cases hl : lv = 0
  · have HV := Lib.hid (show totW lv en cs = (en : Int) by unfold totW; rw [if_pos hl])
    have d4 : (lv == 0) = true := by simpa using hl
    clear hl
    have HB1 := Lib.hid (Below.refl w.heap.size w)
    go_enter Try.func18, Try.ntmps18
    have HF2 := Lib.hid (blk_new w (.cells #[.int .i64 lv, .slice ea en ec, .slice ca cn cc] 26 (0, 0)))
    have HB3 := Lib.hid (HB1.out.alloc HB1.out.size (.cells #[.int .i64 lv, .slice ea en ec, .slice ca cn cc] 26 (0, 0)))
    clear HB1
    have hc4 : (w.alloc (.cells #[.int .i64 lv, .slice ea en ec, .slice ca cn cc] 26 (0, 0))).cell? ⟨w.heap.size, 0, none⟩ = some (.int .i64 lv) := by rw [cell_of_row _ _ _ _ _ _ HF2.out]; rfl
    have hc5 : (w.alloc (.cells #[.int .i64 lv, .slice ea en ec, .slice ca cn cc] 26 (0, 0))).cell? ⟨w.heap.size, 1, none⟩ = some (.slice ea en ec) := by rw [cell_of_row _ _ _ _ _ _ HF2.out]; rfl
    have hc6 : (w.alloc (.cells #[.int .i64 lv, .slice ea en ec, .slice ca cn cc] 26 (0, 0))).cell? ⟨w.heap.size, 2, none⟩ = some (.slice ca cn cc) := by rw [cell_of_row _ _ _ _ _ _ HF2.out]; rfl
    go_wp2_with fail
    go_ret
    exact ⟨by first | (rw [HV.out]; done) | (rw [HV.out]; rfl), HB3.out⟩
  · have HV := Lib.hid (show totW lv en cs = sumI cs by unfold totW; rw [if_neg hl])
    have d4 : (lv == 0) = false := by simpa using hl
    clear hl
    have HB1 := Lib.hid (Below.refl w.heap.size w)
    go_enter Try.func18, Try.ntmps18
    have HF2 := Lib.hid (blk_new w (.cells #[.int .i64 lv, .slice ea en ec, .slice ca cn cc] 26 (0, 0)))
    have HB3 := Lib.hid (HB1.out.alloc HB1.out.size (.cells #[.int .i64 lv, .slice ea en ec, .slice ca cn cc] 26 (0, 0)))
    clear HB1
    have hc4 : (w.alloc (.cells #[.int .i64 lv, .slice ea en ec, .slice ca cn cc] 26 (0, 0))).cell? ⟨w.heap.size, 0, none⟩ = some (.int .i64 lv) := by rw [cell_of_row _ _ _ _ _ _ HF2.out]; rfl
    have hc5 : (w.alloc (.cells #[.int .i64 lv, .slice ea en ec, .slice ca cn cc] 26 (0, 0))).cell? ⟨w.heap.size, 1, none⟩ = some (.slice ea en ec) := by rw [cell_of_row _ _ _ _ _ _ HF2.out]; rfl
    have hc6 : (w.alloc (.cells #[.int .i64 lv, .slice ea en ec, .slice ca cn cc] 26 (0, 0))).cell? ⟨w.heap.size, 2, none⟩ = some (.slice ca cn cc) := by rw [cell_of_row _ _ _ _ _ _ HF2.out]; rfl
    go_wp2_with fail
    go_loop [3, 4] (fun s i => ∃ (k : Nat) (m : Int), s = .int .i64 m ∧ i = .int .i64 (k : Int) ∧ k ≤ cn ∧ m = sumI (cs.take k)) (fun s i => cn - (intOf i).toNat)
    case atStart => exact ⟨0, 0, rfl, rfl, Nat.zero_le _, by simp [sumI]⟩
    case round =>
      obtain ⟨k, m, rfl, rfl, hk, hs⟩ := hrel
      have HS := Lib.hid hs
      clear hs
      by_cases hlt : k < cn
      · have hd1 : decide ((k : Int) < (cn : Int)) = true := decide_eq_true (by omega)
        obtain ⟨b, off, hl, rfl, hbb, hc⟩ := (H.out.below HB3.out).c.at hlt
        have HA := Lib.hid (sumI_snoc cs k hl)
        obtain ⟨x, hx⟩ : ∃ x, cs[k] = x := ⟨_, rfl⟩
        rw [hx] at hc HA
        have a0 := hc 0 _ rfl
        rw [Nat.add_zero, Nat.mul_one] at a0
        have hi0 : (0 : Int) ≤ (k : Int) := by omega
        clear hc hx
        go_wp2_with fail
        go_round
        case rel => exact ⟨k + 1, _, rfl, by go_num, by omega, by rw [HS.out]; exact HA.out⟩
        case measure => simp [intOf] <;> omega
      · have hd1 : decide ((k : Int) < (cn : Int)) = false := decide_eq_false (by omega)
        have HR := Lib.hid (show m = sumI cs by rw [HS.out, List.take_of_length_le (by rw [LC.out]; omega)])
        go_wp2_with fail
        go_ret
        exact ⟨by first | (rw [HV.out, HR.out]; done) | (rw [HV.out, HR.out]; rfl), HB3.out⟩
set_option maxRecDepth 100000 in
set_option maxHeartbeats 1600000 in
theorem clast_any (lv : Int) (ea ca : Option Addr) (en ec cn cc : Nat) (es : List En) (cs : List Int) (w : World) (h : ChR w ea ca en cn es cs) (hn : (en : Int) ≤ 9223372036854775807) (_ : (cn : Int) ≤ 9223372036854775807) :
    Calls Try.prog 20 #[.agg #[.int .i64 lv, .slice ea en ec, .slice ca cn cc]] w fun e w' => e = .returned (.string (lastK es)) ∧ Below w.heap.size w w' := by
  have H := Lib.hid h
  have LE := Lib.hid h.e.1
  clear h
  by_cases h0 : en = 0
  · have HV := Lib.hid (show lastK es = ⟨#[]⟩ by unfold lastK; rw [List.getElem?_eq_none (by rw [LE.out]; omega)]; rfl)
    have d0 : ((en : Int) == 0) = true := by simp [h0]
    have HB1 := Lib.hid (Below.refl w.heap.size w)
    go_enter Try.func20, Try.ntmps20
    have HF2 := Lib.hid (blk_new w (.cells #[.int .i64 lv, .slice ea en ec, .slice ca cn cc] 26 (0, 0)))
    have HB3 := Lib.hid (HB1.out.alloc HB1.out.size (.cells #[.int .i64 lv, .slice ea en ec, .slice ca cn cc] 26 (0, 0)))
    clear HB1
    have hc4 : (w.alloc (.cells #[.int .i64 lv, .slice ea en ec, .slice ca cn cc] 26 (0, 0))).cell? ⟨w.heap.size, 0, none⟩ = some (.int .i64 lv) := by rw [cell_of_row _ _ _ _ _ _ HF2.out]; rfl
    have hc5 : (w.alloc (.cells #[.int .i64 lv, .slice ea en ec, .slice ca cn cc] 26 (0, 0))).cell? ⟨w.heap.size, 1, none⟩ = some (.slice ea en ec) := by rw [cell_of_row _ _ _ _ _ _ HF2.out]; rfl
    have hc6 : (w.alloc (.cells #[.int .i64 lv, .slice ea en ec, .slice ca cn cc] 26 (0, 0))).cell? ⟨w.heap.size, 2, none⟩ = some (.slice ca cn cc) := by rw [cell_of_row _ _ _ _ _ _ HF2.out]; rfl
    clear h0
    go_wp2_with fail
    go_ret
    exact ⟨by first | (rw [HV.out]; done) | (rw [HV.out]; rfl), HB3.out⟩
  · obtain ⟨m, hme⟩ : ∃ m, en = m + 1 := ⟨en - 1, by omega⟩
    obtain ⟨b, off, hl, rfl, hbb, hc⟩ := H.out.e.at (show m < en by omega)
    have HV := Lib.hid (show lastK es = es[m].1 by unfold lastK; rw [LE.out, hme, Nat.add_sub_cancel, List.getElem?_eq_getElem hl]; rfl)
    obtain ⟨x, hx⟩ : ∃ x, es[m] = x := ⟨_, rfl⟩
    rw [hx] at hc HV
    obtain ⟨s, v⟩ := x
    have a0 := hc 0 _ rfl
    rw [Nat.add_zero] at a0
    clear hc hx
    have d0 : ((en : Int) == 0) = false := by simp [h0]
    have d1 : decide ((m : Int) < (en : Int)) = true := decide_eq_true (by omega)
    have hmi0 : (0 : Int) ≤ (m : Int) := by omega
    have hmi1 : (m : Int) < (en : Int) := by omega
    have hw : IntKind.i64.wrap ((en : Int) - 1) = (m : Int) := by rw [IntWalk.i64_in _ (by omega)]; omega
    have hmx : m < en := by omega
    clear h0 hme
    have HB1 := Lib.hid (Below.refl w.heap.size w)
    go_enter Try.func20, Try.ntmps20
    have HF2 := Lib.hid (blk_new w (.cells #[.int .i64 lv, .slice (some ⟨b, off, none⟩) en ec, .slice ca cn cc] 26 (0, 0)))
    have HB3 := Lib.hid (HB1.out.alloc HB1.out.size (.cells #[.int .i64 lv, .slice (some ⟨b, off, none⟩) en ec, .slice ca cn cc] 26 (0, 0)))
    clear HB1
    have hc4 : (w.alloc (.cells #[.int .i64 lv, .slice (some ⟨b, off, none⟩) en ec, .slice ca cn cc] 26 (0, 0))).cell? ⟨w.heap.size, 0, none⟩ = some (.int .i64 lv) := by rw [cell_of_row _ _ _ _ _ _ HF2.out]; rfl
    have hc5 : (w.alloc (.cells #[.int .i64 lv, .slice (some ⟨b, off, none⟩) en ec, .slice ca cn cc] 26 (0, 0))).cell? ⟨w.heap.size, 1, none⟩ = some (.slice (some ⟨b, off, none⟩) en ec) := by rw [cell_of_row _ _ _ _ _ _ HF2.out]; rfl
    have hc6 : (w.alloc (.cells #[.int .i64 lv, .slice (some ⟨b, off, none⟩) en ec, .slice ca cn cc] 26 (0, 0))).cell? ⟨w.heap.size, 2, none⟩ = some (.slice ca cn cc) := by rw [cell_of_row _ _ _ _ _ _ HF2.out]; rfl
    have a1 : (w.alloc (.cells #[.int .i64 lv, .slice (some ⟨b, off, none⟩) en ec, .slice ca cn cc] 26 (0, 0))).cell? ⟨b, off + m * 2, none⟩ = some (.string s) := (HB3.out.cell (p := ⟨b, _, none⟩) hbb).trans a0
    clear a0
    go_wp2_with fail
    go_ret
    exact ⟨by first | (rw [HV.out]; done) | (rw [HV.out]; rfl), HB3.out⟩
end Go.Proofs.Ytdjjabjegmbmaaa
