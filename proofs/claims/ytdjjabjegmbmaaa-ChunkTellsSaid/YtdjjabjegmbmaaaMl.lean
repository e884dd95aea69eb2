/- Find of layer 19, over this translation. Condition: slices of at most 2 to the 62nd. -/
import Derived.Test.YtdjjabjegmbmaaaMb
import Derived.IntWalk
namespace Go.Proofs.Ytdjjabjegmbmaaa
open Go.RowKit Vi

def ltE (x : ByteArray) (e : En) : Bool := Op.bytesLess e.1.toList x.toList
def cntE (x : ByteArray) (es : List En) (k : Nat) : Nat := ((es.take k).takeWhile (ltE x)).length
theorem cntE_step (x : ByteArray) (es : List En) (k : Nat) (h : k < es.length) : cntE x es (k + 1) = if cntE x es k = k ∧ ltE x es[k] = true then k + 1 else cntE x es k := by
  unfold cntE
  rw [List.take_succ_eq_append_getElem h, List.takeWhile_append]
  have hl : (es.take k).length = k := by rw [List.length_take]; omega
  rw [hl]
  by_cases h1 : ((es.take k).takeWhile (ltE x)).length = k
  · rw [if_pos h1]
    by_cases h2 : ltE x es[k] = true
    · rw [if_pos ⟨h1, h2⟩, List.takeWhile_cons, if_pos h2, List.length_append, hl]; rfl
    · rw [if_neg (fun q => h2 q.2), List.takeWhile_cons, if_neg h2, List.append_nil, hl, h1]
  · rw [if_neg h1, if_neg (fun q => h1 q.1)]
def findN (x : ByteArray) (es : List En) : Nat := cntE x es es.length
def ixE (x : ByteArray) (es : List En) : Int := if findN x es = es.length then -1 else (findN x es : Int)
theorem findN_at (x : ByteArray) (es : List En) (k : Nat) (h : k < es.length) (h1 : cntE x es k = k) (h2 : ltE x es[k] = false) : findN x es = k := by
  have hl : (es.take k).length = k := by rw [List.length_take]; omega
  have hd : es.drop k = es[k] :: es.drop (k + 1) := List.drop_eq_getElem_cons h
  unfold findN cntE at *
  rw [List.take_length]
  conv => lhs; rw [← List.take_append_drop k es]
  rw [List.takeWhile_append, hl, if_pos h1, hd, List.takeWhile_cons, if_neg (by rw [h2]; simp), List.append_nil, hl]
theorem findN_le (x : ByteArray) (es : List En) : findN x es ≤ es.length := by
  unfold findN cntE
  rw [List.take_length]
  exact (List.takeWhile_sublist _).length_le
theorem ixE_at (x : ByteArray) (es : List En) (k : Nat) (h : k < es.length) (h1 : cntE x es k = k) (h2 : ltE x es[k] = false) : ixE x es = (k : Int) := by
  unfold ixE
  rw [findN_at x es k h h1 h2, if_neg (by omega)]
theorem ixE_end (x : ByteArray) (es : List En) (k : Nat) (h : es.length ≤ k) (hk : k ≤ es.length) (h1 : cntE x es k = k) : ixE x es = -1 := by
  obtain rfl : k = es.length := by omega
  unfold ixE
  rw [if_pos (show findN x es = es.length from h1)]
set_option maxRecDepth 100000 in
theorem find1_any (s v x : ByteArray) (bx : Nat) (w : World) (h : w.cell? ⟨bx, 0, none⟩ = some (.string x)) (hb : bx < w.heap.size) :
    Calls Try.prog 85 #[.agg #[.string s, .string v], .pointer (some ⟨bx, 0, none⟩)] w fun e w' => e = .returned (.bool (!ltE x (s, v))) ∧ Below w.heap.size w w' := by
  have HB1 := Lib.hid (Below.refl w.heap.size w)
  have HV := Lib.hid (show ltE x (s, v) = Op.bytesLess s.toList x.toList from rfl)
  rw [HV.out]
  go_enter Try.func85, Try.ntmps85
  have HB3 := Lib.hid (HB1.out.alloc HB1.out.size (.cells #[.string s, .string v] 36 (0, 0)))
  have h2 : (w.alloc (.cells #[.string s, .string v] 36 (0, 0))).cell? ⟨bx, 0, none⟩ = some (.string x) := (HB3.out.cell (p := ⟨bx, 0, none⟩) hb).trans h
  have hbn : ¬ bx = w.heap.size := by omega
  go_wp2_with fail
  go_ret
  exact ⟨by first | rfl | simp, HB3.out⟩
set_option maxRecDepth 100000 in
set_option maxHeartbeats 1600000 in
theorem ixfind_any (A : Option Addr) (n c : Nat) (es : List En) (x : ByteArray) (bx : Nat) (w : World) (h : RdX enC 2 w A n es) (hx : w.cell? ⟨bx, 0, none⟩ = some (.string x)) (hbx : bx < w.heap.size) (hn : (n : Int) ≤ 9223372036854775807) :
    Calls Try.prog 84 #[.slice A n c, .func (.func 85) #[] #[.pointer (some ⟨bx, 0, none⟩)]] w fun e w' => e = .returned (.int .i64 (ixE x es)) ∧ Below w.heap.size w w' := by
  have H := Lib.hid h
  have LL := Lib.hid h.1
  have HX := Lib.hid hx
  have HBX := Lib.hid hbx
  have HB1 := Lib.hid (Below.refl w.heap.size w)
  clear h hx hbx
  go_enter Try.func84, Try.ntmps84
  go_wp2_with fail
  go_loopw [8] (fun i wr => ∃ k : Nat, i = .int .i64 (k : Int) ∧ k ≤ n ∧ cntE x es k = k ∧ Below w.heap.size w wr) (fun i _ => n - (intOf i).toNat)
  case atStart => exact ⟨0, rfl, Nat.zero_le _, rfl, HB1.out⟩
  case round =>
    obtain ⟨k, rfl, hk, hs, hb⟩ := hrel
    have HS := Lib.hid hs
    have HB := Lib.hid hb
    clear hs hb
    by_cases hlt : k < n
    · have hd1 : decide ((k : Int) < (n : Int)) = true := decide_eq_true (by omega)
      obtain ⟨b, off, hl, rfl, hbb, hc⟩ := (H.out.below HB.out).at hlt
      have HST := Lib.hid (cntE_step x es k hl)
      have HAT := Lib.hid (ixE_at x es k hl HS.out)
      obtain ⟨y, hy⟩ : ∃ y, es[k] = y := ⟨_, rfl⟩
      rw [hy] at hc HST HAT
      obtain ⟨s, v⟩ := y
      have a0 := hc 0 _ rfl
      have a1 := hc 1 _ rfl
      rw [Nat.add_zero] at a0
      have hi0 : (0 : Int) ≤ (k : Int) := by omega
      have hxr : wr.cell? ⟨bx, 0, none⟩ = some (.string x) := (HB.out.cell (p := ⟨bx, 0, none⟩) HBX.out).trans HX.out
      have hbr : bx < wr.heap.size := Nat.lt_of_lt_of_le HBX.out HB.out.size
      have HF := Lib.hid (find1_any s v x bx wr hxr hbr)
      clear hc hy hxr hbr
      cases hp : ltE x (s, v) with
      | false =>
        rw [hp] at HF
        have HR := Lib.hid (HAT.out hp)
        clear hp
        go_wp2_with fail
        refine HF.out.mono ?_
        rintro e w1 ⟨rfl, hb1⟩
        have HB2 := Lib.hid (HB.out.trans (hb1.mono HB.out.size))
        clear hb1
        go_wp2_with fail
        go_ret
        exact ⟨by first | (rw [HR.out]; done) | (rw [HR.out]; rfl), HB2.out⟩
      | true =>
        rw [hp] at HF
        have HR := Lib.hid (show cntE x es (k + 1) = k + 1 by rw [HST.out, if_pos ⟨HS.out, hp⟩])
        clear hp
        go_wp2_with fail
        refine HF.out.mono ?_
        rintro e w1 ⟨rfl, hb1⟩
        have HB2 := Lib.hid (HB.out.trans (hb1.mono HB.out.size))
        clear hb1
        go_wp2_with fail
        go_roundw
        case rel => exact ⟨k + 1, by go_num, by omega, HR.out, HB2.out⟩
        case measure => simp [intOf] <;> omega
    · have hd1 : decide ((k : Int) < (n : Int)) = false := decide_eq_false (by omega)
      have HR := Lib.hid (ixE_end x es k (by rw [LL.out]; omega) (by rw [LL.out]; omega) HS.out)
      go_wp2_with fail
      go_ret
      exact ⟨by first | (rw [HR.out]; done) | (rw [HR.out]; rfl), HB.out⟩
set_option maxRecDepth 100000 in
set_option maxHeartbeats 1600000 in
theorem cfind_any (lv : Int) (ea ca : Option Addr) (en ec cn cc : Nat) (es : List En) (cs : List Int) (w : World) (h : ChR w ea ca en cn es cs) (hn : (en : Int) ≤ 9223372036854775807) (_ : (cn : Int) ≤ 9223372036854775807) (x : ByteArray) :
    Calls Try.prog 21 #[.agg #[.int .i64 lv, .slice ea en ec, .slice ca cn cc], .string x] w fun e w' => e = .returned (.int .i64 (findN x es : Int)) ∧ Below w.heap.size w w' := by
  have H := Lib.hid h
  have LE := Lib.hid h.e.1
  have HIX := Lib.hid (fun (W : World) (bx : Nat) (g : RdX enC 2 W ea en es) (g1 : W.cell? ⟨bx, 0, none⟩ = some (.string x)) (g2 : bx < W.heap.size) => ixfind_any ea en ec es x bx W g g1 g2 hn)
  clear h
  by_cases he : findN x es = en
  · have HV := Lib.hid (show ixE x es = -1 by unfold ixE; rw [if_pos (by rw [LE.out]; exact he)])
    have HW := Lib.hid (show (findN x es : Int) = (en : Int) by rw [he])
    rw [HV.out] at HIX
    clear he
    have HB1 := Lib.hid (Below.refl w.heap.size w)
    go_enter Try.func21, Try.ntmps21
    have HF2 := Lib.hid (blk_new w (.cells #[.int .i64 lv, .slice ea en ec, .slice ca cn cc] 26 (0, 0)))
    have HB3 := Lib.hid (HB1.out.alloc HB1.out.size (.cells #[.int .i64 lv, .slice ea en ec, .slice ca cn cc] 26 (0, 0)))
    clear HB1
    have HF4 := Lib.hid (blk_alloc HF2.out (.cells #[.string x] 9 (0, 0)))
    have HB5 := Lib.hid (HB3.out.alloc HB3.out.size (.cells #[.string x] 9 (0, 0)))
    have hcx : ((w.alloc (.cells #[.int .i64 lv, .slice ea en ec, .slice ca cn cc] 26 (0, 0))).alloc (.cells #[.string x] 9 (0, 0))).cell? ⟨w.heap.size + 1, 0, none⟩ = some (.string x) := by
      have HX := blk_new (w.alloc (.cells #[.int .i64 lv, .slice ea en ec, .slice ca cn cc] 26 (0, 0))) (.cells #[.string x] 9 (0, 0))
      rw [show (w.alloc (.cells #[.int .i64 lv, .slice ea en ec, .slice ca cn cc] 26 (0, 0))).heap.size = w.heap.size + 1 by simp] at HX
      rw [cell_of_row _ _ _ _ _ _ HX]; rfl
    have hlx : w.heap.size + 1 < ((w.alloc (.cells #[.int .i64 lv, .slice ea en ec, .slice ca cn cc] 26 (0, 0))).alloc (.cells #[.string x] 9 (0, 0))).heap.size := by simp
    have hc4 : ((w.alloc (.cells #[.int .i64 lv, .slice ea en ec, .slice ca cn cc] 26 (0, 0))).alloc (.cells #[.string x] 9 (0, 0))).cell? ⟨w.heap.size, 0, none⟩ = some (.int .i64 lv) := by rw [cell_of_row _ _ _ _ _ _ HF4.out]; rfl
    have hc5 : ((w.alloc (.cells #[.int .i64 lv, .slice ea en ec, .slice ca cn cc] 26 (0, 0))).alloc (.cells #[.string x] 9 (0, 0))).cell? ⟨w.heap.size, 1, none⟩ = some (.slice ea en ec) := by rw [cell_of_row _ _ _ _ _ _ HF4.out]; rfl
    have hc6 : ((w.alloc (.cells #[.int .i64 lv, .slice ea en ec, .slice ca cn cc] 26 (0, 0))).alloc (.cells #[.string x] 9 (0, 0))).cell? ⟨w.heap.size, 2, none⟩ = some (.slice ca cn cc) := by rw [cell_of_row _ _ _ _ _ _ HF4.out]; rfl
    clear HF2 HB3
    go_wp2_with fail
    clear hc4 hc5 hc6
    refine (HIX.out _ _ ((H.out.e.alloc _).alloc _) hcx hlx).mono ?_
    rintro e w1 ⟨rfl, hb1⟩
    have HF7 := Lib.hid (blk_below HF4.out hb1)
    have HB8 := Lib.hid (HB5.out.trans (hb1.mono HB5.out.size))
    clear hb1 HB5 HF4 hcx hlx
    have hc7 : w1.cell? ⟨w.heap.size, 1, none⟩ = some (.slice ea en ec) := by rw [cell_of_row _ _ _ _ _ _ HF7.out]; rfl
    go_wp2_with fail
    go_ret
    exact ⟨by first | (rw [HW.out]; done) | (rw [HW.out]; rfl), HB8.out⟩
  · obtain ⟨m, hm⟩ : ∃ m, m = findN x es := ⟨_, rfl⟩
    have HV := Lib.hid (show ixE x es = (m : Int) by unfold ixE; rw [if_neg (by rw [LE.out]; exact he), hm])
    rw [HV.out] at HIX
    rw [← hm]
    have d1 : decide ((m : Int) < 0) = false := decide_eq_false (by omega)
    clear he hm
    have HB1 := Lib.hid (Below.refl w.heap.size w)
    go_enter Try.func21, Try.ntmps21
    have HF2 := Lib.hid (blk_new w (.cells #[.int .i64 lv, .slice ea en ec, .slice ca cn cc] 26 (0, 0)))
    have HB3 := Lib.hid (HB1.out.alloc HB1.out.size (.cells #[.int .i64 lv, .slice ea en ec, .slice ca cn cc] 26 (0, 0)))
    clear HB1
    have HF4 := Lib.hid (blk_alloc HF2.out (.cells #[.string x] 9 (0, 0)))
    have HB5 := Lib.hid (HB3.out.alloc HB3.out.size (.cells #[.string x] 9 (0, 0)))
    have hcx : ((w.alloc (.cells #[.int .i64 lv, .slice ea en ec, .slice ca cn cc] 26 (0, 0))).alloc (.cells #[.string x] 9 (0, 0))).cell? ⟨w.heap.size + 1, 0, none⟩ = some (.string x) := by
      have HX := blk_new (w.alloc (.cells #[.int .i64 lv, .slice ea en ec, .slice ca cn cc] 26 (0, 0))) (.cells #[.string x] 9 (0, 0))
      rw [show (w.alloc (.cells #[.int .i64 lv, .slice ea en ec, .slice ca cn cc] 26 (0, 0))).heap.size = w.heap.size + 1 by simp] at HX
      rw [cell_of_row _ _ _ _ _ _ HX]; rfl
    have hlx : w.heap.size + 1 < ((w.alloc (.cells #[.int .i64 lv, .slice ea en ec, .slice ca cn cc] 26 (0, 0))).alloc (.cells #[.string x] 9 (0, 0))).heap.size := by simp
    have hc4 : ((w.alloc (.cells #[.int .i64 lv, .slice ea en ec, .slice ca cn cc] 26 (0, 0))).alloc (.cells #[.string x] 9 (0, 0))).cell? ⟨w.heap.size, 0, none⟩ = some (.int .i64 lv) := by rw [cell_of_row _ _ _ _ _ _ HF4.out]; rfl
    have hc5 : ((w.alloc (.cells #[.int .i64 lv, .slice ea en ec, .slice ca cn cc] 26 (0, 0))).alloc (.cells #[.string x] 9 (0, 0))).cell? ⟨w.heap.size, 1, none⟩ = some (.slice ea en ec) := by rw [cell_of_row _ _ _ _ _ _ HF4.out]; rfl
    have hc6 : ((w.alloc (.cells #[.int .i64 lv, .slice ea en ec, .slice ca cn cc] 26 (0, 0))).alloc (.cells #[.string x] 9 (0, 0))).cell? ⟨w.heap.size, 2, none⟩ = some (.slice ca cn cc) := by rw [cell_of_row _ _ _ _ _ _ HF4.out]; rfl
    clear HF2 HB3
    go_wp2_with fail
    clear hc4 hc5 hc6
    refine (HIX.out _ _ ((H.out.e.alloc _).alloc _) hcx hlx).mono ?_
    rintro e w1 ⟨rfl, hb1⟩
    have HB8 := Lib.hid (HB5.out.trans (hb1.mono HB5.out.size))
    clear hb1 HB5 HF4 hcx hlx
    go_wp2_with fail
    go_ret
    exact ⟨rfl, HB8.out⟩
end Go.Proofs.Ytdjjabjegmbmaaa
